/- Layer 10: CyclonPick. -/
import Derived.Test.YtgbnnllbpidlfaaYu
import Derived.Test.YtgbnnllbpidlfaaYn
import Derived.Test.YtgbnnllbpidlfaaRaw
import Derived.Test.YtgbnnllbpidlfaaReg6
import Derived.Deep.Cut
import Derived.Laws.Cover1
import Derived.Maps.RangeWalk
namespace Go.Proofs.Ytgbnnllbpidlfaa
open Go.RowKit Go.Maps
set_option linter.unusedVariables false
theorem dropmapX {ds : List Dsc} {j : Nat} {d : Dsc} (h : ds[j]? = some d) : (ds.take (j + 1)).map (·.1) = (ds.take j).map (·.1) ++ [d.1] := by rw [List.take_add_one, h, List.map_append]; rfl
theorem not_met {ds : List Dsc} {j : Nat} {d : Dsc} (h : ds.Pairwise fun a b => a.1 ≠ b.1) (hd : ds[j]? = some d) : d.1 ∉ ((ds.take j).map (·.1)).reverse := fun hm => by
  rw [List.mem_reverse] at hm
  obtain ⟨e, he, hn⟩ := List.mem_map.1 hm
  obtain ⟨i, hi, rfl⟩ := List.mem_iff_getElem.1 he
  obtain ⟨hj, rfl⟩ := List.getElem?_eq_some_iff.1 hd
  rw [List.length_take] at hi
  rw [List.getElem_take] at hn
  exact List.pairwise_iff_getElem.1 h i j (by omega) hj (by omega) hn
set_option maxRecDepth 100000 in
set_option maxHeartbeats 40000000 in
theorem picklaw_walk (A : Option Addr) (n c : Nat) (xs : List (Dsc × Hd)) (self not many : Int) (Ad : Option Addr) (nd cd : Nat) (rs : List Int) (w : World) (h : Sds w A n c xs) (hR : ∀ x ∈ xs, dscR x.1) (hse : byt self) (hnt : byt not) (hd : Su w Ad nd cd rs) (hr : drawR rs) :
    Calls Try.prog 5 #[.slice A n c, .int .u8 self, .int .u8 not, .int .i64 many, .slice Ad nd cd] w fun e w' => e = .returned (.bool true) ∧ Below w.heap.size w w' := by
  have HL := Lib.hid h.len
  have HR := Lib.hid hR
  have HS := Lib.hid h
  have HD := Lib.hid hd
  have HDR := Lib.hid hr
  have HLD := Lib.hid hd.len
  have HSF := Lib.hid hse
  have HNT := Lib.hid hnt
  have B := Lib.hid (Below.refl w.heap.size w)
  have hmm := @run_makeMap Try.prog
  obtain ⟨f1, HF1⟩ : ∃ f, Hid (fewB (xs.map (·.1)) = f) := ⟨_, rfl⟩
  clear h hR hse hnt hd hr
  go_enter Try.func5, Try.ntmps5
  go_wp2_with fail
  have hc := few_any A n c xs w HS.out
  rw [HF1.out] at hc
  refine hc.mono ?_
  clear hc
  rintro e w1 ⟨rfl, b5⟩
  replace B := Lib.hid (thn B.out b5)
  clear b5
  cases f1
  · skip
    go_wp2_with fail
    have hc := awake_any w1
    refine hc.mono ?_
    clear hc
    rintro e w2 ⟨rfl, b5⟩
    replace B := Lib.hid (thn B.out b5)
    clear b5
    go_wp2
    go_ret
    exact ⟨rfl, B.out⟩
  · skip
    by_cases hnd : (30 : Int) < (nd : Int)
    · skip
      go_wp2_with fail
      have hc := awake_any w1
      refine hc.mono ?_
      clear hc
      rintro e w2 ⟨rfl, b5⟩
      replace B := Lib.hid (thn B.out b5)
      clear b5
      go_wp2
      go_ret
      exact ⟨rfl, B.out⟩
    · skip
      have HFX := Lib.hid (few_fit HF1.out HL.out HR.out)
      go_wp2_with fail
      have hc := view_any A n c xs self 20 w1 (HS.out.next B.out) HR.out (by decide)
      refine hc.mono ?_
      clear hc
      rintro e w2 ⟨Av, nv, cv, vs, rfl, hv, sv, b5⟩
      have SV := Lib.hid (sv.sds)
      have HV := Lib.hid (hv)
      replace B := Lib.hid (thn B.out b5)
      clear b5
      clear sv hv
      have HFV : Hid (Fit nv vs) := view_fit HV.out HFX.out (by omega) SV.out.len
      have HRV : Hid (RightD (vs.map (·.1)) self 20) := HV.out.right
      have HLV := Lib.hid SV.out.len
      have nv20 : nv ≤ 20 := by have := HRV.out.2.2.2; rw [List.length_map, ← HLV.out] at this; omega
      go_wp2_with fail
      have hc := drop_any Av nv cv vs not w2 SV.out HFV.out ⟨self, 20, HRV.out⟩
      refine hc.mono ?_
      clear hc
      rintro e w3 ⟨Ao, no, co, zo, rfl, mo, do_, b5⟩
      have SO := Lib.hid (do_.sds)
      have MO := Lib.hid (mo)
      replace SV := Lib.hid (SV.out.next b5)
      replace B := Lib.hid (thn B.out b5)
      clear b5
      clear do_ mo
      obtain ⟨OD, HOD⟩ : ∃ m, Hid (dropD (vs.map (·.1)) not = m) := ⟨_, rfl⟩
      have HLO : Hid (no = OD.length) := by unfold Hid; rw [SO.out.len, ← HOD.out, ← MO.out, List.length_map]
      have no20 : no ≤ 20 := by have h4 := drop_le (ds := vs.map (·.1)) not; rw [HOD.out, List.length_map] at h4; have := HLV.out; have := HLO.out; omega
      go_wp2_with fail
      have hc := pick_any Av nv cv vs many not Ad nd cd rs w3 SV.out HFV.out (Su.next HD.out B.out) HDR.out
      rw [HOD.out] at hc
      refine hc.mono ?_
      clear hc
      rintro e w4 ⟨Ag, ng, cg, zg, rfl, mg, dg, b5⟩
      have SG := Lib.hid (dg.sds)
      have MG := Lib.hid (mg)
      replace SV := Lib.hid (SV.out.next b5)
      replace SO := Lib.hid (SO.out.next b5)
      replace B := Lib.hid (thn B.out b5)
      clear b5
      clear dg mg
      obtain ⟨PD, HPD⟩ : ∃ m, Hid (pickD OD many rs = m) := ⟨_, rfl⟩
      have HLP : Hid (ng = PD.length) := by unfold Hid; rw [SG.out.len, ← HPD.out, ← MG.out, List.length_map]
      have hpl := pick_len rs OD many
      rw [HPD.out, ← HLP.out, ← HLO.out, ← HLD.out] at hpl
      have ng20 : ng ≤ 20 := by have := pick_le rs OD many; rw [HPD.out, ← HLP.out, ← HLO.out] at this; omega
      have HPA : Hid (PD.Pairwise fun a b => a.1 ≠ b.1) := by unfold Hid; rw [← HPD.out]; exact pick_apart (by rw [← HOD.out]; exact HRV.out.2.1.sublist List.filter_sublist)
      have HPM : Hid (∀ d ∈ PD, d ∈ vs.map (·.1) ∧ d.1 ≠ not) := fun d hd => by rw [← HPD.out] at hd; have := pick_mem hd; rw [← HOD.out] at this; exact dropD_mem.1 this
      obtain ⟨mn, hmn⟩ : ∃ m, (if (nd : Int) < (if (no : Int) < many then (no : Int) else many) then (nd : Int) else (if (no : Int) < many then (no : Int) else many)) = m := ⟨_, rfl⟩
      have hmn2 : max mn 0 = (ng : Int) := by rw [hpl, ← hmn]; split <;> split <;> omega
      have hmin3 : ∀ w' : World, (Builtin.min_ #[3, 3, 3] 3 #[.int .i64 many, .int .i64 (no : Int), .int .i64 (nd : Int)]).run Try.prog w' = .ok (.int .i64 mn) w' := fun w' => by rw [run_min_int3, hmn]
      have hmax2 : ∀ w' : World, (Builtin.max_ #[3, 3] 3 #[.int .i64 mn, .int .i64 0]).run Try.prog w' = .ok (.int .i64 (ng : Int)) w' := fun w' => by rw [run_max_int2, ← hmn2]; congr 2; split <;> omega
      clear hpl hmn hmn2
      have hgm := SG.out.max
      have hgc := SG.out.cap
      have hom := SO.out.max
      have hoc := SO.out.cap
      unfold maxLen at hgm hom
      go_upto_region 8 with fail
      have hbl : Below w4.heap.size w4 (w4.alloc (.map #[] 0)) := (Below.refl _ _).alloc (Nat.le_refl _) _
      have OM := Lib.hid (OwnU.made w4)
      have HMW : Hid (w4.heap.size ≤ w4.heap.size) := Nat.le_refl _
      have BV0 := Lib.hid hbl
      clear hbl
      go_upto_region 9 with fail
      generalize w4.alloc (.map #[] 0) = w5 at *
      obtain ⟨M, hM⟩ : ∃ g, w4.heap.size = g := ⟨_, rfl⟩
      have HMW2 : Hid (w4.heap.size ≤ M) := by rw [← hM]; exact HMW.out
      rw [hM] at OM ⊢
      clear hM HMW hmm
      have SV0 := Lib.hid SV.out
      clear SV
      have SO0 := Lib.hid SO.out
      clear SO
      have SG0 := Lib.hid SG.out
      clear SG
      have B0 := Lib.hid B.out
      clear B
      go_wp2
      go_loopw [10, 16, 17, 53] (fun _ _ _ iv wr => ∃ j : Nat, j ≤ ng ∧ iv = .int .i64 j ∧ Hid (OwnU wr M ((PD.take j).map (·.1)).reverse) ∧ Hid (Below w4.heap.size w4 wr)) (fun _ _ _ iv _ => ng - (intOf iv).toNat)
      case atStart => exact ⟨0, Nat.zero_le _, rfl, OM, BV0⟩
      case round =>
        clear OM BV0
        obtain ⟨j, hj, rfl, OM, BL⟩ := hrel
        obtain ⟨v3, rfl⟩ : ∃ v, v = wr := ⟨_, rfl⟩
        have i0 : (0 : Int) ≤ (j : Int) := by omega
        have SV := Lib.hid (SV0.out.next BL.out)
        have SO := Lib.hid (SO0.out.next BL.out)
        have SG := Lib.hid (SG0.out.next BL.out)
        have B := Lib.hid (thn B0.out BL.out)
        by_cases hlt : j < ng
        · skip
          as_aux_lemma =>
            have i1 : (j : Int) < (ng : Int) := by omega
            have HMLT := Lib.hid (ownU_lt OM.out)
            obtain ⟨b, off, x, hA, hb, hx, hxm, c0, c1, c2', c3'⟩ := SG.out.at_ hlt
            subst hA
            have HXP : Hid (PD[j]? = some x.1) := by unfold Hid; rw [← HPD.out, ← MG.out, List.getElem?_map, hx]; rfl
            have FX := Lib.hid (SG0.out.fl x hxm)
            have HPX := Lib.hid (HPM.out x.1 (List.mem_of_getElem? HXP.out))
            obtain ⟨y, hy, hye⟩ := List.mem_map.1 HPX.out.1
            have F1Y := Lib.hid (HFV.out.all y hy)
            obtain ⟨kk, hkk⟩ := List.mem_iff_getElem?.1 hy
            have HKK := Lib.hid hkk
            have HYE := Lib.hid hye
            have HYM := Lib.hid hy
            have hkn : kk < nv := by rw [HLV.out]; exact (List.getElem?_eq_some_iff.1 hkk).1
            have HFK : Hid (findI (vs.map (·.1)) x.1.1 = kk) := by unfold Hid; rw [← hye]; exact findI_rise HRV.out.2.1 (by rw [List.getElem?_map, hkk]; rfl)
            have HXB : Hid (byt x.1.1) := by unfold Hid; rw [← hye]; exact F1Y.out.1.1
            have HNM := Lib.hid (not_met HPA.out HXP.out)
            have hnn : (x.1.1 == not) = false := by have := HPX.out.2; simp [this]
            clear hx hxm hb hy hye hkk
            go_upto_region 12 with fail
            clear c0 c1 c2' c3'
            have hbl := below_lit v3 (.cells #[.int .u8 x.1.1, .int .u16 x.1.2.1, .int .u8 x.1.2.2.1, .slice x.2.1 x.2.2.1 x.2.2.2] 34)
            replace SV := Lib.hid (SV.out.next hbl)
            replace SO := Lib.hid (SO.out.next hbl)
            replace SG := Lib.hid (SG.out.next hbl)
            replace B := Lib.hid (thn B.out hbl)
            replace BL := Lib.hid (thn BL.out hbl)
            replace OM := Lib.hid (OM.out.next hbl)
            have K : Hid (DBlk (v3.alloc (.cells #[.int .u8 x.1.1, .int .u16 x.1.2.1, .int .u8 x.1.2.2.1, .slice x.2.1 x.2.2.1 x.2.2.2] 34)) v3.heap.size x.1 x.2) := DBlk.new v3 x.1 x.2
            have HMG : Hid (v3.heap.size ≠ M) := Nat.ne_of_gt HMLT.out
            clear hbl
            generalize v3.alloc (.cells #[.int .u8 x.1.1, .int .u16 x.1.2.1, .int .u8 x.1.2.2.1, .slice x.2.1 x.2.2.1 x.2.2.2] 34) = v4 at *
            obtain ⟨g, hg⟩ : ∃ q, v3.heap.size = q := ⟨_, rfl⟩
            rw [hg] at K HMG ⊢
            clear hg HMLT
            obtain ⟨K0, K1, K2, K3⟩ := K.out.cells
            go_wp2_with fail
            have hc := find_any Av nv cv vs x.1.1 v4 SV.out HFV.out ⟨self, 20, HRV.out⟩
            rw [HFK.out] at hc
            refine hc.mono ?_
            clear hc
            rintro e w41 ⟨rfl, b5⟩
            clear K0 K1 K2 K3
            have BL2 := Lib.hid (thn BL.out b5)
            replace SV := Lib.hid (SV.out.next b5)
            replace SO := Lib.hid (SO.out.next b5)
            replace SG := Lib.hid (SG.out.next b5)
            replace K := Lib.hid (K.out.next b5)
            replace OM := Lib.hid (OM.out.next b5)
            replace B := Lib.hid (thn B.out b5)
            clear b5
            clear BL
            have BL := BL2
            clear BL2
            have hlk := OM.out.look HXB.out
            rw [if_neg HNM.out] at hlk
            obtain ⟨p0, p1, p2, p3⟩ := K.out.cells
            have hln : ((PD.take j).map (·.1)).reverse.length ≤ 20 := by rw [List.length_reverse, List.length_map, List.length_take]; omega
            have hk0 : (0 : Int) ≤ (kk : Int) := by omega
            go_upto_region 14 with (at_mapUpdate; refine wpList_mapUpdate_own _ rfl _ _ _ MU rfl 5 3 keyedU mtU _ M _ _ rfl OM.out (by unfold maxLen; omega) _ _ _ rfl rfl (keyU HXB.out) _ [] (plainElem_int Try.underlying3 (a := 1) (by decide)) ?_; intro v9 own1 grow1)
            go_frame
            have HNX : Hid (((PD.take (j + 1)).map (·.1)).reverse = x.1.1 :: ((PD.take j).map (·.1)).reverse) := by unfold Hid; rw [dropmapX HXP.out, List.reverse_append]; rfl
            have OM9 : Hid (OwnU v9 M ((PD.take (j + 1)).map (·.1)).reverse) := by unfold Hid; rw [HNX.out]; exact own1
            have BL9 := Lib.hid (belowG BL.out grow1 BL.out.size HMW2.out)
            have K9 := Lib.hid (K.out.gr grow1 (by
              intro e
              injection e with e
              exact HMG.out e))
            clear own1 grow1 hlk p0 p1 p2 p3 OM BL K SV SO SG B hln
            have OM := OM9
            have BL := BL9
            have K := K9
            clear OM9 BL9 K9
            have SV := Lib.hid (SV0.out.next BL.out)
            have B := Lib.hid (thn B0.out BL.out)
            have FX9 : Hid (Fl v9 x) := Sn.next FX.out BL.out
            obtain ⟨bv, ov, y2, hAv, hy2, hy2m, HCV⟩ := SV.out.cells (j := kk) hkn
            obtain rfl : y2 = y := by have := HKK.out; rw [hy2] at this; exact Option.some.inj this
            have FYV := Lib.hid (SV.out.fl y2 hy2m)
            subst hAv
            clear hy2 hy2m
            have hk1 : (kk : Int) < (nv : Int) := by omega
            have hk2 : ¬ (nv : Int) ≤ (kk : Int) := by omega
            have HKY : Hid (∀ u : World, Below v9.heap.size v9 u → (Instr.lookup MU (.map (some M)) (.int .u8 x.1.1) false).run Try.prog u = .ok (.int .i64 1) u) := fun u hu => by
              have := (OM.out.next hu).look HXB.out
              rw [if_pos (by rw [HNX.out]; exact List.mem_cons_self)] at this
              exact this
            have HSY : Hid (decide (y2.1 = x.1) = true) := decide_eq_true HYE.out
            refine wp_region_typed 29 [(66, .val (.map (some M))), (67, .val (.pointer (some ⟨g, 0, none⟩))), (68, .val (.int .u8 x.1.1)), (69, .val (.int .i64 1)), (70, .val (.bool false)), (71, .val (.bool false)), (72, .val (.pointer (some ⟨g, 0, none⟩))), (73, .val (.int .u8 x.1.1)), (74, .val (.int .u8 not)), (75, .val (.bool false)), (76, .val (.bool false)), (77, .val (.bool false)), (78, .val (.int .i64 (kk : Int))), (79, .val (.bool false)), (80, .val (.bool false)), (81, .val (.bool false)), (82, .val (.int .i64 (kk : Int))), (83, .val (.slice (some ⟨bv, ov, none⟩) nv cv)), (84, .val (.int .i64 (nv : Int))), (85, .val (.bool false)), (86, .val (.bool false)), (87, .val (.bool false)), (88, .val (.slice (some ⟨bv, ov, none⟩) nv cv)), (89, .val (.int .i64 (kk : Int))), (90, .val (.pointer (some ⟨bv, ov + kk * 4, none⟩))), (91, .val (.agg #[.int .u8 y2.1.1, .int .u16 y2.1.2.1, .int .u8 y2.1.2.2.1, .slice y2.2.1 y2.2.2.1 y2.2.2.2])), (92, .val (.agg #[.int .u8 x.1.1, .int .u16 x.1.2.1, .int .u8 x.1.2.2.1, .slice x.2.1 x.2.2.1 x.2.2.2])), (93, .val (.bool true)), (94, .val (.bool false))]
              [[], [], [67], [66, 68], [69], [70], [71], [71, 72], [71], [71, 73, 74], [71, 75], [76], [77], [77, 78], [77, 79], [80], [81], [81], [81, 83], [81, 82, 84], [81, 85], [86], [87], [87], [87, 88, 89], [87, 90], [87], [87, 91, 92], [87, 93]] (by kernel_rfl) (by kernel_rfl) ?_ ?_
            rotate_left
            · intro v91 hb
              simp only [List.take_succ_cons, List.take_zero, List.drop_succ_cons, List.drop_zero]
              refine over_ds (ds := [66, 67, 68, 69, 70, 71, 72, 73, 74, 75, 76, 77, 78, 79, 80, 81, 82, 83, 84, 85, 86, 87, 88, 89, 90, 91, 92, 93, 94]) (by kernel_rfl) ?_
              refine over_some (ds1 := [66, 67, 68, 69, 70, 71, 72, 73, 74, 75, 76, 77, 78, 79, 80, 81, 82, 83, 84, 85, 86, 87, 88, 89, 90, 91, 92, 93, 94]) (ds2 := []) [(.map (some M)), (.pointer (some ⟨g, 0, none⟩)), (.int .u8 x.1.1), (.int .i64 1), (.bool false), (.bool false), (.pointer (some ⟨g, 0, none⟩)), (.int .u8 x.1.1), (.int .u8 not), (.bool false), (.bool false), (.bool false), (.int .i64 (kk : Int)), (.bool false), (.bool false), (.bool false), (.int .i64 (kk : Int)), (.slice (some ⟨bv, ov, none⟩) nv cv), (.int .i64 (nv : Int)), (.bool false), (.bool false), (.bool false), (.slice (some ⟨bv, ov, none⟩) nv cv), (.int .i64 (kk : Int)), (.pointer (some ⟨bv, ov + kk * 4, none⟩)), (.agg #[.int .u8 y2.1.1, .int .u16 y2.1.2.1, .int .u8 y2.1.2.2.1, .slice y2.2.1 y2.2.2.1 y2.2.2.2]), (.agg #[.int .u8 x.1.1, .int .u16 x.1.2.1, .int .u8 x.1.2.2.1, .slice x.2.1 x.2.2.1 x.2.2.2]), (.bool true), (.bool false)] (by kernel_rfl) ?_
              refine over_nil ?_
              simp only [putAll, put_lit, List.set_cons_succ, List.set_cons_zero]
              replace SV := Lib.hid (SV.out.next hb)
              replace K := Lib.hid (K.out.next hb)
              replace OM := Lib.hid (OM.out.next hb)
              replace BL := Lib.hid (thn BL.out hb)
              clear hb
              go_wp2
              go_roundw
              case rel => exact ⟨j + 1, by omega, by go_num, OM, BL⟩
              case measure => simp [intOf]; omega
            simp only [List.take_succ_cons, List.take_zero]
            refine ⟨?r14g0, ?r14g1, ?r14g2, ?r14g3, ?r14g4, ?r14g5, ?r14g6, ?r14g7, ?r14g8, ?r14g9, ?r14g10, ?r14g11, ?r14g12, ?r14g13, ?r14g14, ?r14g15, ?r14g16, ?r14g17, ?r14g18, ?r14g19, ?r14g20, ?r14g21, ?r14g22, ?r14g23, ?r14g24, ?r14g25, ?r14g26, ?r14g27, ?r14g28, trivial⟩
            case r14g0 =>
              intro w9 hb
              refine over_nil ?_
              go_wp2
              first | exact post_of (by rfl) (by rfl) (Below.refl _ _) (by rfl) | exact rfl
            case r14g1 =>
              intro w9 hb
              refine over_nil ?_
              go_wp2
              first | exact post_of (by rfl) (by rfl) (Below.refl _ _) (by rfl) | exact rfl
            case r14g2 =>
              intro w9 hb
              refine over_some (ds1 := [67]) (ds2 := []) [(.pointer (some ⟨g, 0, none⟩))] (by kernel_rfl) ?_
              refine over_nil ?_
              simp only [putAll, put_lit, List.set_cons_succ, List.set_cons_zero]
              obtain ⟨p0, q0, r0, s0⟩ := (K.out.next hb).cells
              go_wp2
              first | exact post_of (by rfl) (by rfl) (Below.refl _ _) (by rfl) | exact rfl
            case r14g3 =>
              intro w9 hb
              refine over_some (ds1 := [66, 68]) (ds2 := []) [(.map (some M)), (.int .u8 x.1.1)] (by kernel_rfl) ?_
              refine over_nil ?_
              simp only [putAll, put_lit, List.set_cons_succ, List.set_cons_zero]
              have hlk := HKY.out w9 hb
              go_wp2
              first | exact post_of (by rfl) (by rfl) (Below.refl _ _) (by rfl) | exact rfl
            case r14g4 =>
              intro w9 hb
              refine over_some (ds1 := [69]) (ds2 := []) [(.int .i64 1)] (by kernel_rfl) ?_
              refine over_nil ?_
              simp only [putAll, put_lit, List.set_cons_succ, List.set_cons_zero]
              go_wp2
              exact post_of (by rfl) (by rfl) (Below.refl _ _) (by first | rfl | (show Value.bool _ = Value.bool _; rw [Value.bool.injEq]; first | exact decide_eq_true (by omega) | exact decide_eq_false (by omega) | assumption | (simp; omega)))
            case r14g5 =>
              intro w9 hb
              refine over_some (ds1 := [70]) (ds2 := []) [(.bool false)] (by kernel_rfl) ?_
              refine over_nil ?_
              simp only [putAll, put_lit, List.set_cons_succ, List.set_cons_zero]
              go_wp2
              first | exact post_of (by rfl) (by rfl) (Below.refl _ _) (by rfl) | exact rfl
            case r14g6 =>
              intro w9 hb
              refine over_some (ds1 := [71]) (ds2 := []) [(.bool false)] (by kernel_rfl) ?_
              refine over_nil ?_
              simp only [putAll, put_lit, List.set_cons_succ, List.set_cons_zero]
              go_wp2
              first | exact post_of (by rfl) (by rfl) (Below.refl _ _) (by rfl) | exact rfl
            case r14g7 =>
              intro w9 hb
              refine over_some (ds1 := [71, 72]) (ds2 := []) [(.bool false), (.pointer (some ⟨g, 0, none⟩))] (by kernel_rfl) ?_
              refine over_nil ?_
              simp only [putAll, put_lit, List.set_cons_succ, List.set_cons_zero]
              obtain ⟨p0, q0, r0, s0⟩ := (K.out.next hb).cells
              go_wp2
              first | exact post_of (by rfl) (by rfl) (Below.refl _ _) (by rfl) | exact rfl
            case r14g8 =>
              intro w9 hb
              refine over_some (ds1 := [71]) (ds2 := []) [(.bool false)] (by kernel_rfl) ?_
              refine over_nil ?_
              simp only [putAll, put_lit, List.set_cons_succ, List.set_cons_zero]
              go_wp2
              first | exact post_of (by rfl) (by rfl) (Below.refl _ _) (by rfl) | exact rfl
            case r14g9 =>
              intro w9 hb
              refine over_some (ds1 := [71, 73, 74]) (ds2 := []) [(.bool false), (.int .u8 x.1.1), (.int .u8 not)] (by kernel_rfl) ?_
              refine over_nil ?_
              simp only [putAll, put_lit, List.set_cons_succ, List.set_cons_zero]
              go_wp2
              exact post_of (by rfl) (by rfl) (Below.refl _ _) (by first | rfl | (show Value.bool _ = Value.bool _; rw [Value.bool.injEq]; first | exact decide_eq_true (by omega) | exact decide_eq_false (by omega) | assumption | (simp; omega)))
            case r14g10 =>
              intro w9 hb
              refine over_some (ds1 := [71, 75]) (ds2 := []) [(.bool false), (.bool false)] (by kernel_rfl) ?_
              refine over_nil ?_
              simp only [putAll, put_lit, List.set_cons_succ, List.set_cons_zero]
              go_wp2
              first | exact post_of (by rfl) (by rfl) (Below.refl _ _) (by rfl) | exact rfl
            case r14g11 =>
              intro w9 hb
              refine over_some (ds1 := [76]) (ds2 := []) [(.bool false)] (by kernel_rfl) ?_
              refine over_nil ?_
              simp only [putAll, put_lit, List.set_cons_succ, List.set_cons_zero]
              go_wp2
              first | exact post_of (by rfl) (by rfl) (Below.refl _ _) (by rfl) | exact rfl
            case r14g12 =>
              intro w9 hb
              refine over_some (ds1 := [77]) (ds2 := []) [(.bool false)] (by kernel_rfl) ?_
              refine over_nil ?_
              simp only [putAll, put_lit, List.set_cons_succ, List.set_cons_zero]
              go_wp2
              first | exact post_of (by rfl) (by rfl) (Below.refl _ _) (by rfl) | exact rfl
            case r14g13 =>
              intro w9 hb
              refine over_some (ds1 := [77, 78]) (ds2 := []) [(.bool false), (.int .i64 (kk : Int))] (by kernel_rfl) ?_
              refine over_nil ?_
              simp only [putAll, put_lit, List.set_cons_succ, List.set_cons_zero]
              go_wp2
              exact post_of (by rfl) (by rfl) (Below.refl _ _) (by first | rfl | (show Value.bool _ = Value.bool _; rw [Value.bool.injEq]; first | exact decide_eq_true (by omega) | exact decide_eq_false (by omega) | assumption | (simp; omega)))
            case r14g14 =>
              intro w9 hb
              refine over_some (ds1 := [77, 79]) (ds2 := []) [(.bool false), (.bool false)] (by kernel_rfl) ?_
              refine over_nil ?_
              simp only [putAll, put_lit, List.set_cons_succ, List.set_cons_zero]
              go_wp2
              first | exact post_of (by rfl) (by rfl) (Below.refl _ _) (by rfl) | exact rfl
            case r14g15 =>
              intro w9 hb
              refine over_some (ds1 := [80]) (ds2 := []) [(.bool false)] (by kernel_rfl) ?_
              refine over_nil ?_
              simp only [putAll, put_lit, List.set_cons_succ, List.set_cons_zero]
              go_wp2
              first | exact post_of (by rfl) (by rfl) (Below.refl _ _) (by rfl) | exact rfl
            case r14g16 =>
              intro w9 hb
              refine over_some (ds1 := [81]) (ds2 := []) [(.bool false)] (by kernel_rfl) ?_
              refine over_nil ?_
              simp only [putAll, put_lit, List.set_cons_succ, List.set_cons_zero]
              go_wp2
              first | exact post_of (by rfl) (by rfl) (Below.refl _ _) (by rfl) | exact rfl
            case r14g17 =>
              intro w9 hb
              refine over_some (ds1 := [81]) (ds2 := []) [(.bool false)] (by kernel_rfl) ?_
              refine over_nil ?_
              simp only [putAll, put_lit, List.set_cons_succ, List.set_cons_zero]
              go_wp2
              first | exact post_of (by rfl) (by rfl) (Below.refl _ _) (by rfl) | exact rfl
            case r14g18 =>
              intro w9 hb
              refine over_some (ds1 := [81, 83]) (ds2 := []) [(.bool false), (.slice (some ⟨bv, ov, none⟩) nv cv)] (by kernel_rfl) ?_
              refine over_nil ?_
              simp only [putAll, put_lit, List.set_cons_succ, List.set_cons_zero]
              go_wp2
              first | exact post_of (by rfl) (by rfl) (Below.refl _ _) (by rfl) | exact rfl
            case r14g19 =>
              intro w9 hb
              refine over_some (ds1 := [81, 82, 84]) (ds2 := []) [(.bool false), (.int .i64 (kk : Int)), (.int .i64 (nv : Int))] (by kernel_rfl) ?_
              refine over_nil ?_
              simp only [putAll, put_lit, List.set_cons_succ, List.set_cons_zero]
              go_wp2
              exact post_of (by rfl) (by rfl) (Below.refl _ _) (by first | rfl | (show Value.bool _ = Value.bool _; rw [Value.bool.injEq]; first | exact decide_eq_true (by omega) | exact decide_eq_false (by omega) | assumption | (simp; omega)))
            case r14g20 =>
              intro w9 hb
              refine over_some (ds1 := [81, 85]) (ds2 := []) [(.bool false), (.bool false)] (by kernel_rfl) ?_
              refine over_nil ?_
              simp only [putAll, put_lit, List.set_cons_succ, List.set_cons_zero]
              go_wp2
              first | exact post_of (by rfl) (by rfl) (Below.refl _ _) (by rfl) | exact rfl
            case r14g21 =>
              intro w9 hb
              refine over_some (ds1 := [86]) (ds2 := []) [(.bool false)] (by kernel_rfl) ?_
              refine over_nil ?_
              simp only [putAll, put_lit, List.set_cons_succ, List.set_cons_zero]
              go_wp2
              first | exact post_of (by rfl) (by rfl) (Below.refl _ _) (by rfl) | exact rfl
            case r14g22 =>
              intro w9 hb
              refine over_some (ds1 := [87]) (ds2 := []) [(.bool false)] (by kernel_rfl) ?_
              refine over_nil ?_
              simp only [putAll, put_lit, List.set_cons_succ, List.set_cons_zero]
              go_wp2
              first | exact post_of (by rfl) (by rfl) (Below.refl _ _) (by rfl) | exact rfl
            case r14g23 =>
              intro w9 hb
              refine over_some (ds1 := [87]) (ds2 := []) [(.bool false)] (by kernel_rfl) ?_
              refine over_nil ?_
              simp only [putAll, put_lit, List.set_cons_succ, List.set_cons_zero]
              go_wp2
              first | exact post_of (by rfl) (by rfl) (Below.refl _ _) (by rfl) | exact rfl
            case r14g24 =>
              intro w9 hb
              refine over_some (ds1 := [87, 88, 89]) (ds2 := []) [(.bool false), (.slice (some ⟨bv, ov, none⟩) nv cv), (.int .i64 (kk : Int))] (by kernel_rfl) ?_
              refine over_nil ?_
              simp only [putAll, put_lit, List.set_cons_succ, List.set_cons_zero]
              go_wp2
              first | exact post_of (by rfl) (by rfl) (Below.refl _ _) (by rfl) | exact rfl
            case r14g25 =>
              intro w9 hb
              refine over_some (ds1 := [87, 90]) (ds2 := []) [(.bool false), (.pointer (some ⟨bv, ov + kk * 4, none⟩))] (by kernel_rfl) ?_
              refine over_nil ?_
              simp only [putAll, put_lit, List.set_cons_succ, List.set_cons_zero]
              obtain ⟨q0, q1, q2, q3⟩ := HCV.out w9 hb
              go_wp2
              first | exact post_of (by rfl) (by rfl) (Below.refl _ _) (by rfl) | exact rfl
            case r14g26 =>
              intro w9 hb
              refine over_some (ds1 := [87]) (ds2 := []) [(.bool false)] (by kernel_rfl) ?_
              refine over_nil ?_
              simp only [putAll, put_lit, List.set_cons_succ, List.set_cons_zero]
              obtain ⟨p0, q0, r0, s0⟩ := (K.out.next hb).cells
              go_wp2
              first | exact post_of (by rfl) (by rfl) (Below.refl _ _) (by rfl) | exact rfl
            case r14g27 =>
              intro w9 hb
              refine over_some (ds1 := [87, 91, 92]) (ds2 := []) [(.bool false), (.agg #[.int .u8 y2.1.1, .int .u16 y2.1.2.1, .int .u8 y2.1.2.2.1, .slice y2.2.1 y2.2.2.1 y2.2.2.2]), (.agg #[.int .u8 x.1.1, .int .u16 x.1.2.1, .int .u8 x.1.2.2.1, .slice x.2.1 x.2.2.1 x.2.2.2])] (by kernel_rfl) ?_
              refine over_nil ?_
              simp only [putAll, put_lit, List.set_cons_succ, List.set_cons_zero]
              go_wp2_with fail
              have hc2 := same_any y2 x w9 (Sn.next FYV.out hb) (Sn.next FX9.out hb)
              rw [HSY.out] at hc2
              refine hc2.mono ?_
              clear hc2
              rintro e w8 ⟨rfl, b6⟩
              go_wp2
              exact post_of (by rfl) (by rfl) b6 (by rfl)
            case r14g28 =>
              intro w9 hb
              refine over_some (ds1 := [87, 93]) (ds2 := []) [(.bool false), (.bool true)] (by kernel_rfl) ?_
              refine over_nil ?_
              simp only [putAll, put_lit, List.set_cons_succ, List.set_cons_zero]
              go_wp2
              first | exact post_of (by rfl) (by rfl) (Below.refl _ _) (by rfl) | exact rfl
        · skip
          obtain rfl : ng = j := by omega
          clear OM BL
          go_wp2
          go_loopw [10, 18, 19, 99] (fun _ _ _ iv wr => ∃ j : Nat, j ≤ no ∧ iv = .int .i64 j ∧ Hid (Below v3.heap.size v3 wr)) (fun _ _ _ iv _ => no - (intOf iv).toNat)
          case atStart => exact ⟨0, Nat.zero_le _, rfl, Below.refl _ _⟩
          case round =>
            obtain ⟨j, hj, rfl, BL⟩ := hrel
            obtain ⟨v5, rfl⟩ : ∃ v, v = wr := ⟨_, rfl⟩
            have i0 : (0 : Int) ≤ (j : Int) := by omega
            replace SV := Lib.hid (SV.out.next BL.out)
            replace SO := Lib.hid (SO.out.next BL.out)
            replace B := Lib.hid (thn B.out BL.out)
            by_cases hlt : j < no
            · skip
              as_aux_lemma =>
                have i1 : (j : Int) < (no : Int) := by omega
                obtain ⟨b, off, x, hA, hx, hxm, HCX⟩ := SO.out.cells hlt
                subst hA
                have FX := Lib.hid (SO.out.fl x hxm)
                have HOJ : Hid (OD[j]? = some x.1) := by unfold Hid; rw [← HOD.out, ← MO.out, List.getElem?_map, hx]; rfl
                clear hx hxm
                obtain ⟨r, hr⟩ : ∃ r, (j : Int) + 3 * (no : Int) = r := ⟨_, rfl⟩
                have HRR : Hid (r = ((j + 3 * OD.length : Nat) : Int)) := by unfold Hid; rw [← HLO.out, ← hr]; omega
                have r0 : 0 ≤ r := by omega
                have r1 : r ≤ 4294967295 := by omega
                have HP1 : Hid (pickD OD 1 [r] = [x.1]) := pick_one HOJ.out HRR.out
                have hbl := below_lit v5 (.cells #[.int .u32 r] 49)
                have hU := su_lit v5 #[.int .u32 r] [r] 1 rfl rfl (by decide)
                have HU := Lib.hid hU
                have HBL := Lib.hid hbl
                clear hU hbl
                go_wp2_with fail
                have hc := pick_any Av nv cv vs 1 not _ 1 1 [r] _ (SV.out.next HBL.out) HFV.out HU.out (by intro z hz; rw [List.mem_singleton] at hz; subst hz; exact ⟨r0, r1⟩)
                rw [HOD.out, HP1.out] at hc
                refine hc.mono ?_
                clear hc HU
                rintro e v6 ⟨A1, n1, c1, z1, rfl, m1, d1, b5⟩
                replace b5 := thn HBL.out b5
                have S1 := Lib.hid d1.sds
                obtain ⟨h1, z2, rfl, hz2⟩ := map_cons1 m1
                obtain rfl : z2 = [] := List.map_eq_nil_iff.1 hz2
                obtain rfl : n1 = 1 := d1.len
                clear m1 d1 hz2 HBL
                replace SV := Lib.hid (SV.out.next b5)
                replace SO := Lib.hid (SO.out.next b5)
                replace B := Lib.hid (thn B.out b5)
                replace BL := Lib.hid (thn BL.out b5)
                replace FX : Hid (Fl v6 x) := Sn.next FX.out b5
                replace HCX : Hid (∀ u : World, Below v6.heap.size v6 u → u.cell? ⟨b, off + j * 4, none⟩ = some (.int .u8 x.1.1) ∧ u.cell? ⟨b, off + j * 4 + 1, none⟩ = some (.int .u16 x.1.2.1) ∧ u.cell? ⟨b, off + j * 4 + 2, none⟩ = some (.int .u8 x.1.2.2.1) ∧ u.cell? ⟨b, off + j * 4 + 3, none⟩ = some (.slice x.2.1 x.2.2.1 x.2.2.2)) := fun u hu => HCX.out u (thn b5 hu)
                clear b5
                obtain ⟨b1, o1, y1, hA1, hy1, hy1m, HC1⟩ := S1.out.cells (j := 0) (by decide)
                obtain rfl := Option.some.inj hy1
                subst hA1
                have FY1 := Lib.hid (S1.out.fl _ hy1m)
                clear hy1 hy1m
                go_upto_region 21 with fail
                refine wp_region_typed 13 [(112, .val (.slice (some ⟨b1, o1, none⟩) 1 c1)), (113, .val (.int .i64 1)), (114, .val (.bool false)), (115, .val (.bool false)), (116, .val (.slice (some ⟨b1, o1, none⟩) 1 c1)), (117, .val (.pointer (some ⟨b1, o1, none⟩))), (118, .val (.agg #[.int .u8 x.1.1, .int .u16 x.1.2.1, .int .u8 x.1.2.2.1, .slice h1.1 h1.2.1 h1.2.2])), (119, .val (.slice (some ⟨b, off, none⟩) no co)), (120, .val (.int .i64 (j : Int))), (121, .val (.pointer (some ⟨b, off + j * 4, none⟩))), (122, .val (.agg #[.int .u8 x.1.1, .int .u16 x.1.2.1, .int .u8 x.1.2.2.1, .slice x.2.1 x.2.2.1 x.2.2.2])), (123, .val (.bool true)), (124, .val (.bool false))]
                  [[], [112], [113], [114], [115], [115, 116], [115, 117], [115], [115], [115, 119, 120], [115, 121], [115, 118, 122], [115, 123]] (by kernel_rfl) (by kernel_rfl) ?_ ?_
                rotate_left
                · intro v111 hb
                  simp only [List.take_succ_cons, List.take_zero, List.drop_succ_cons, List.drop_zero]
                  refine over_ds (ds := [112, 113, 114, 115, 116, 117, 118, 119, 120, 121, 122, 123, 124]) (by kernel_rfl) ?_
                  refine over_some (ds1 := [112, 113, 114, 115, 116, 117, 118, 119, 120, 121, 122, 123, 124]) (ds2 := []) [(.slice (some ⟨b1, o1, none⟩) 1 c1), (.int .i64 1), (.bool false), (.bool false), (.slice (some ⟨b1, o1, none⟩) 1 c1), (.pointer (some ⟨b1, o1, none⟩)), (.agg #[.int .u8 x.1.1, .int .u16 x.1.2.1, .int .u8 x.1.2.2.1, .slice h1.1 h1.2.1 h1.2.2]), (.slice (some ⟨b, off, none⟩) no co), (.int .i64 (j : Int)), (.pointer (some ⟨b, off + j * 4, none⟩)), (.agg #[.int .u8 x.1.1, .int .u16 x.1.2.1, .int .u8 x.1.2.2.1, .slice x.2.1 x.2.2.1 x.2.2.2]), (.bool true), (.bool false)] (by kernel_rfl) ?_
                  refine over_nil ?_
                  simp only [putAll, put_lit, List.set_cons_succ, List.set_cons_zero]
                  replace SV := Lib.hid (SV.out.next hb)
                  replace SO := Lib.hid (SO.out.next hb)
                  replace BL := Lib.hid (thn BL.out hb)
                  clear hb
                  go_wp2
                  go_roundw
                  case rel => exact ⟨j + 1, by omega, by go_num, BL⟩
                  case measure => simp [intOf]; omega
                simp only [List.take_succ_cons, List.take_zero]
                refine ⟨?r21g0, ?r21g1, ?r21g2, ?r21g3, ?r21g4, ?r21g5, ?r21g6, ?r21g7, ?r21g8, ?r21g9, ?r21g10, ?r21g11, ?r21g12, trivial⟩
                case r21g0 =>
                  intro w9 hb
                  refine over_nil ?_
                  go_wp2
                  first | exact post_of (by rfl) (by rfl) (Below.refl _ _) (by rfl) | exact rfl
                case r21g1 =>
                  intro w9 hb
                  refine over_some (ds1 := [112]) (ds2 := []) [(.slice (some ⟨b1, o1, none⟩) 1 c1)] (by kernel_rfl) ?_
                  refine over_nil ?_
                  simp only [putAll, put_lit, List.set_cons_succ, List.set_cons_zero]
                  go_wp2
                  first | exact post_of (by rfl) (by rfl) (Below.refl _ _) (by rfl) | exact rfl
                case r21g2 =>
                  intro w9 hb
                  refine over_some (ds1 := [113]) (ds2 := []) [(.int .i64 1)] (by kernel_rfl) ?_
                  refine over_nil ?_
                  simp only [putAll, put_lit, List.set_cons_succ, List.set_cons_zero]
                  go_wp2
                  exact post_of (by rfl) (by rfl) (Below.refl _ _) (by first | rfl | (show Value.bool _ = Value.bool _; rw [Value.bool.injEq]; first | exact decide_eq_true (by omega) | exact decide_eq_false (by omega) | assumption | (simp; omega)))
                case r21g3 =>
                  intro w9 hb
                  refine over_some (ds1 := [114]) (ds2 := []) [(.bool false)] (by kernel_rfl) ?_
                  refine over_nil ?_
                  simp only [putAll, put_lit, List.set_cons_succ, List.set_cons_zero]
                  go_wp2
                  first | exact post_of (by rfl) (by rfl) (Below.refl _ _) (by rfl) | exact rfl
                case r21g4 =>
                  intro w9 hb
                  refine over_some (ds1 := [115]) (ds2 := []) [(.bool false)] (by kernel_rfl) ?_
                  refine over_nil ?_
                  simp only [putAll, put_lit, List.set_cons_succ, List.set_cons_zero]
                  go_wp2
                  first | exact post_of (by rfl) (by rfl) (Below.refl _ _) (by rfl) | exact rfl
                case r21g5 =>
                  intro w9 hb
                  refine over_some (ds1 := [115, 116]) (ds2 := []) [(.bool false), (.slice (some ⟨b1, o1, none⟩) 1 c1)] (by kernel_rfl) ?_
                  refine over_nil ?_
                  simp only [putAll, put_lit, List.set_cons_succ, List.set_cons_zero]
                  go_wp2
                  first | exact post_of (by rfl) (by rfl) (Below.refl _ _) (by rfl) | exact rfl
                case r21g6 =>
                  intro w9 hb
                  refine over_some (ds1 := [115, 117]) (ds2 := []) [(.bool false), (.pointer (some ⟨b1, o1, none⟩))] (by kernel_rfl) ?_
                  refine over_nil ?_
                  simp only [putAll, put_lit, List.set_cons_succ, List.set_cons_zero]
                  obtain ⟨q0, q1, q2, q3⟩ := HC1.out w9 hb
                  rw [Nat.zero_mul, Nat.add_zero] at q0 q1 q2 q3
                  go_wp2
                  first | exact post_of (by rfl) (by rfl) (Below.refl _ _) (by rfl) | exact rfl
                case r21g7 =>
                  intro w9 hb
                  refine over_some (ds1 := [115]) (ds2 := []) [(.bool false)] (by kernel_rfl) ?_
                  refine over_nil ?_
                  simp only [putAll, put_lit, List.set_cons_succ, List.set_cons_zero]
                  go_wp2
                  first | exact post_of (by rfl) (by rfl) (Below.refl _ _) (by rfl) | exact rfl
                case r21g8 =>
                  intro w9 hb
                  refine over_some (ds1 := [115]) (ds2 := []) [(.bool false)] (by kernel_rfl) ?_
                  refine over_nil ?_
                  simp only [putAll, put_lit, List.set_cons_succ, List.set_cons_zero]
                  go_wp2
                  first | exact post_of (by rfl) (by rfl) (Below.refl _ _) (by rfl) | exact rfl
                case r21g9 =>
                  intro w9 hb
                  refine over_some (ds1 := [115, 119, 120]) (ds2 := []) [(.bool false), (.slice (some ⟨b, off, none⟩) no co), (.int .i64 (j : Int))] (by kernel_rfl) ?_
                  refine over_nil ?_
                  simp only [putAll, put_lit, List.set_cons_succ, List.set_cons_zero]
                  go_wp2
                  first | exact post_of (by rfl) (by rfl) (Below.refl _ _) (by rfl) | exact rfl
                case r21g10 =>
                  intro w9 hb
                  refine over_some (ds1 := [115, 121]) (ds2 := []) [(.bool false), (.pointer (some ⟨b, off + j * 4, none⟩))] (by kernel_rfl) ?_
                  refine over_nil ?_
                  simp only [putAll, put_lit, List.set_cons_succ, List.set_cons_zero]
                  obtain ⟨q0, q1, q2, q3⟩ := HCX.out w9 hb
                  go_wp2
                  first | exact post_of (by rfl) (by rfl) (Below.refl _ _) (by rfl) | exact rfl
                case r21g11 =>
                  intro w9 hb
                  refine over_some (ds1 := [115, 118, 122]) (ds2 := []) [(.bool false), (.agg #[.int .u8 x.1.1, .int .u16 x.1.2.1, .int .u8 x.1.2.2.1, .slice h1.1 h1.2.1 h1.2.2]), (.agg #[.int .u8 x.1.1, .int .u16 x.1.2.1, .int .u8 x.1.2.2.1, .slice x.2.1 x.2.2.1 x.2.2.2])] (by kernel_rfl) ?_
                  refine over_nil ?_
                  simp only [putAll, put_lit, List.set_cons_succ, List.set_cons_zero]
                  go_wp2_with fail
                  have hc2 := same_any (x.1, h1) x w9 (Sn.next FY1.out hb) (Sn.next FX.out hb)
                  rw [show decide (((x.1, h1) : Dsc × Hd).1 = x.1) = true from decide_eq_true rfl] at hc2
                  refine hc2.mono ?_
                  clear hc2
                  rintro e w8 ⟨rfl, b6⟩
                  go_wp2
                  exact post_of (by rfl) (by rfl) b6 (by rfl)
                case r21g12 =>
                  intro w9 hb
                  refine over_some (ds1 := [115, 123]) (ds2 := []) [(.bool false), (.bool true)] (by kernel_rfl) ?_
                  refine over_nil ?_
                  simp only [putAll, put_lit, List.set_cons_succ, List.set_cons_zero]
                  go_wp2
                  first | exact post_of (by rfl) (by rfl) (Below.refl _ _) (by rfl) | exact rfl
            · skip
              obtain rfl : no = j := by omega
              go_wp2_with fail
              have hc := awake_any v5
              refine hc.mono ?_
              clear hc
              rintro e w101 ⟨rfl, b5⟩
              replace SV := Lib.hid (SV.out.next b5)
              replace SO := Lib.hid (SO.out.next b5)
              replace B := Lib.hid (thn B.out b5)
              clear b5
              go_wp2
              go_ret
              exact ⟨rfl, B.out⟩
end Go.Proofs.Ytgbnnllbpidlfaa
