/- Layer 10: CyclonMerge. -/
import Derived.Test.YtgbnnllbpidlfaaYn
import Derived.Deep.Cut
import Derived.Shelf.Abstract
namespace Go.Proofs.Ytgbnnllbpidlfaa
open Go.RowKit
set_option linter.unusedVariables false
/-- What the law asks of what is merged. -/
structure MergeSays (v got sent m : List Dsc) (me room : Int) : Prop where
  right : RightD m me room
  more : v.length ≤ m.length
  of_ : ∀ d ∈ m, d ∈ v ∨ d ∈ got
  kept : ∀ d ∈ v, hasN m d.1 = true ∨ (hasN sent d.1 = true ∧ hasN got d.1 = false)
  there : (m.length : Int) < room → ∀ d ∈ got, d.1 ≠ me → d.2.1 ≠ 0 → hasN m d.1 = true
theorem merge_says {v got sent : List Dsc} {me room : Int} (hr : RightD v me room) : MergeSays v got sent (mergeD v got sent me room) me room := by
  have h := merge_facts (got := got) (sent := sent) hr
  exact ⟨h.right, h.more, h.of_, fun d hd => (h.kept d.1 (hasN_iff.2 ⟨d, hd, rfl⟩)).imp_right fun ⟨a, s, hs, e⟩ => ⟨hasN_iff.2 ⟨s, hs, e⟩, a⟩, fun hl d hd => h.there hl d hd hd⟩
theorem merge_len {v got sent : List Dsc} {me room : Int} (hr : RightD v me room) : (mergeD v got sent me room).length ≤ v.length + got.length := (merge_facts (got := got) (sent := sent) hr).most
set_option maxRecDepth 100000 in
set_option maxHeartbeats 40000000 in
theorem mergelaw_walk (A : Option Addr) (n c : Nat) (xs : List (Dsc × Hd)) (Ag : Option Addr) (ng cg : Nat) (gs : List (Dsc × Hd)) (As : Option Addr) (ns cs : Nat) (ss : List (Dsc × Hd)) (self room : Int) (w : World) (h : Sds w A n c xs) (hR : ∀ x ∈ xs, dscR x.1) (hg : Sds w Ag ng cg gs) (hRg : ∀ x ∈ gs, dscR x.1) (hs : Sds w As ns cs ss) (hRs : ∀ x ∈ ss, dscR x.1) (hse : byt self) (hrm : byt room) :
    Calls Try.prog 4 #[.slice A n c, .slice Ag ng cg, .slice As ns cs, .int .u8 self, .int .u8 room] w fun e w' => e = .returned (.bool true) ∧ Below w.heap.size w w' := by
  have HL := Lib.hid h.len
  have HLg := Lib.hid hg.len
  have HLs := Lib.hid hs.len
  have HR := Lib.hid hR
  have HRg := Lib.hid hRg
  have HRs := Lib.hid hRs
  have HS := Lib.hid h
  have HG := Lib.hid hg
  have HT := Lib.hid hs
  have HSF := Lib.hid hse
  have hgm := hg.max
  have hgc := hg.cap
  unfold maxLen at hgm
  have B := Lib.hid (Below.refl w.heap.size w)
  obtain ⟨f1, HF1⟩ : ∃ f, Hid (fewB (xs.map (·.1)) = f) := ⟨_, rfl⟩
  obtain ⟨f2, HF2⟩ : ∃ f, Hid (fewB (gs.map (·.1)) = f) := ⟨_, rfl⟩
  obtain ⟨f3, HF3⟩ : ∃ f, Hid (fewB (ss.map (·.1)) = f) := ⟨_, rfl⟩
  obtain ⟨rm, hrm1⟩ : ∃ r, Int.tmod room 21 = r := ⟨_, rfl⟩
  have rm0 : 0 ≤ rm := by rw [← hrm1]; exact Int.tmod_nonneg _ hrm.1
  have rm1 : rm ≤ 20 := by rw [← hrm1]; have := Int.tmod_lt_of_pos room (show (0 : Int) < 21 by decide); omega
  obtain ⟨hrmL, hrmU⟩ := hrm
  have eg20 : ∀ args w, (callFunc 20 args).run Try.prog w = .ok (.enter 20 args) w := enters_of Try.func20 (by kernel_rfl) rfl
  have eg22 : ∀ args w, (callFunc 22 args).run Try.prog w = .ok (.enter 22 args) w := enters_of Try.func22 (by kernel_rfl) rfl
  clear h hR hg hRg hs hRs hse
  go_enter Try.func4, Try.ntmps4
  go_wp2_with fail
  have hc := few_any A n c xs w HS.out
  rw [HF1.out] at hc
  refine hc.mono ?_
  clear hc
  rintro e w1 ⟨rfl, b5⟩
  replace B := Lib.hid (thn B.out b5)
  clear b5
  cases f1
  · skip
    go_wp2_with fail
    have hc := awake_any w1
    refine hc.mono ?_
    clear hc
    rintro e w2 ⟨rfl, b5⟩
    replace B := Lib.hid (thn B.out b5)
    clear b5
    go_wp2
    go_ret
    exact ⟨rfl, B.out⟩
  · skip
    go_wp2_with fail
    have hc := few_any Ag ng cg gs w1 (HG.out.next B.out)
    rw [HF2.out] at hc
    refine hc.mono ?_
    clear hc
    rintro e w2 ⟨rfl, b5⟩
    replace B := Lib.hid (thn B.out b5)
    clear b5
    cases f2
    · skip
      go_wp2_with fail
      have hc := awake_any w2
      refine hc.mono ?_
      clear hc
      rintro e w3 ⟨rfl, b5⟩
      replace B := Lib.hid (thn B.out b5)
      clear b5
      go_wp2
      go_ret
      exact ⟨rfl, B.out⟩
    · skip
      go_wp2_with fail
      have hc := few_any As ns cs ss w2 (HT.out.next B.out)
      rw [HF3.out] at hc
      refine hc.mono ?_
      clear hc
      rintro e w3 ⟨rfl, b5⟩
      replace B := Lib.hid (thn B.out b5)
      clear b5
      cases f3
      · skip
        go_wp2_with fail
        have hc := awake_any w3
        refine hc.mono ?_
        clear hc
        rintro e w4 ⟨rfl, b5⟩
        replace B := Lib.hid (thn B.out b5)
        clear b5
        go_wp2
        go_ret
        exact ⟨rfl, B.out⟩
      · skip
        have HFX := Lib.hid (few_fit HF1.out HL.out HR.out)
        have HFG := Lib.hid (few_fit HF2.out HLg.out HRg.out)
        have HFS := Lib.hid (few_fit HF3.out HLs.out HRs.out)
        have HFG2 : Hid (ng ≤ 20) := by have := (few_yes HF2.out).2; rw [List.length_map] at this; rw [HLg.out]; exact this
        go_wp2_with fail
        have hc := view_any A n c xs self rm w3 (HS.out.next B.out) HR.out rm0
        refine hc.mono ?_
        clear hc
        rintro e w4 ⟨Av, nv, cv, vs, rfl, hv, sv, b5⟩
        have SV := Lib.hid (sv.sds)
        have HV := Lib.hid (hv)
        replace B := Lib.hid (thn B.out b5)
        clear b5
        clear sv hv
        have HFV : Hid (Fit nv vs) := view_fit HV.out HFX.out (by omega) SV.out.len
        have HRV : Hid (RightD (vs.map (·.1)) self rm) := HV.out.right
        have HLV := Lib.hid SV.out.len
        obtain ⟨MD, HMD⟩ : ∃ m, Hid (mergeD (vs.map (·.1)) (gs.map (·.1)) (ss.map (·.1)) self rm = m) := ⟨_, rfl⟩
        have HMS := Lib.hid (merge_says (got := gs.map (·.1)) (sent := ss.map (·.1)) HRV.out)
        rw [HMD.out] at HMS
        go_wp2_with fail
        have hc := merge_any Av nv cv vs Ag ng cg gs As ns cs ss self rm w4 SV.out HFV.out (HG.out.next B.out) HFG.out (HT.out.next B.out) HFS.out (by omega) HRV.out
        rw [HMD.out] at hc
        refine hc.mono ?_
        clear hc
        rintro e w5 ⟨Am, nm, cm, ms, rfl, mm, dm, b5⟩
        have SM := Lib.hid (dm.sds)
        have MM := Lib.hid (mm)
        replace SV := Lib.hid (SV.out.next b5)
        replace B := Lib.hid (thn B.out b5)
        clear b5
        clear dm mm
        have HLM := Lib.hid SM.out.len
        have HLMD : Hid (nm = MD.length) := by unfold Hid; rw [HLM.out, ← MM.out, List.length_map]
        have nm1 : ¬ (nm : Int) < (nv : Int) := by have h1 := HMS.out.more; rw [List.length_map, ← HLV.out] at h1; rw [← HLMD.out] at h1; omega
        have HFM : Hid (Fit nm ms) := fit_of MM.out (by have := HMS.out.right.2.2.2; rw [← HLMD.out] at this; omega) fun d hd => (HMS.out.of_ d hd).elim (fun h => by obtain ⟨y, hy, rfl⟩ := List.mem_map.1 h; exact HFV.out.all y hy) (fun h => by obtain ⟨y, hy, rfl⟩ := List.mem_map.1 h; exact HFG.out.all y hy)
        have nm3 : ¬ nm < nv := by omega
        have nm4 : decide (nm < nv) = false := decide_eq_false nm3
        have nm2 : nm ≤ 20 := by have := HMS.out.right.2.2.2; rw [← HLMD.out] at this; omega
        have nv2 : nv ≤ 20 := by have := HRV.out.2.2.2; rw [List.length_map, ← HLV.out] at this; omega
        go_wp2_with fail
        have hc := right_any Am nm cm ms self rm w5 SM.out (by omega)
        rw [show decide (RightD (ms.map (·.1)) self rm) = true from decide_eq_true (by rw [MM.out]; exact HMS.out.right)] at hc
        refine hc.mono ?_
        clear hc
        rintro e w6 ⟨rfl, b5⟩
        replace SV := Lib.hid (SV.out.next b5)
        replace SM := Lib.hid (SM.out.next b5)
        replace B := Lib.hid (thn B.out b5)
        clear b5
        go_wp2
        go_loopw [10, 17, 64] (fun _ _ iv wr => ∃ j : Nat, j ≤ nm ∧ iv = .int .i64 j ∧ Hid (Below w6.heap.size w6 wr)) (fun _ _ iv _ => nm - (intOf iv).toNat)
        case atStart => exact ⟨0, Nat.zero_le _, rfl, Below.refl _ _⟩
        case round =>
          obtain ⟨j, hj, rfl, BL⟩ := hrel
          obtain ⟨v3, rfl⟩ : ∃ v, v = wr := ⟨_, rfl⟩
          replace SV := Lib.hid (SV.out.next BL.out)
          replace SM := Lib.hid (SM.out.next BL.out)
          replace B := Lib.hid (thn B.out BL.out)
          have i0 : (0 : Int) ≤ (j : Int) := by omega
          by_cases hlt : j < nm
          · skip
            as_aux_lemma =>
              have i1 : (j : Int) < (nm : Int) := by omega
              obtain ⟨b, off, x, hA, hb, hx, hxm, c0, c1, c2', c3'⟩ := SM.out.at_ hlt
              subst hA
              have HO : Hid (x.1 ∈ vs.map (·.1) ∨ x.1 ∈ gs.map (·.1)) := HMS.out.of_ x.1 (by rw [← MM.out]; exact List.mem_map.2 ⟨x, hxm, rfl⟩)
              have FX := Lib.hid (SM.out.fl x hxm)
              clear hx hxm hb
              go_upto_region 13 with fail
              clear c0 c1 c2' c3'
              have hbl := below_lit v3 (.cells #[.int .u8 x.1.1, .int .u16 x.1.2.1, .int .u8 x.1.2.2.1, .slice x.2.1 x.2.2.1 x.2.2.2] 34)
              replace SV := Lib.hid (SV.out.next hbl)
              replace SM := Lib.hid (SM.out.next hbl)
              replace B := Lib.hid (thn B.out hbl)
              replace BL := Lib.hid (thn BL.out hbl)
              replace FX : Hid (Fl _ x) := Sn.next FX.out hbl
              clear hbl
              have K : Hid (DBlk (v3.alloc (.cells #[.int .u8 x.1.1, .int .u16 x.1.2.1, .int .u8 x.1.2.2.1, .slice x.2.1 x.2.2.1 x.2.2.2] 34)) v3.heap.size x.1 x.2) := DBlk.new v3 x.1 x.2
              generalize v3.alloc (.cells #[.int .u8 x.1.1, .int .u16 x.1.2.1, .int .u8 x.1.2.2.1, .slice x.2.1 x.2.2.1 x.2.2.2] 34) = w31 at *
              obtain ⟨g, hg⟩ : ∃ g, v3.heap.size = g := ⟨_, rfl⟩
              rw [hg] at K ⊢
              clear hg
              obtain ⟨z, HZ⟩ : ∃ z, Hid (decide (x.1 ∈ vs.map (·.1)) = z) := ⟨_, rfl⟩
              have FB : Hid (Below w31.heap.size w31 w31) := Below.refl _ _
              cases z
              · skip
                have HO2 : Hid (decide (x.1 ∈ gs.map (·.1)) = true) := decide_eq_true (HO.out.resolve_left (of_decide_eq_false HZ.out))
                obtain ⟨K0, K1, K2, K3⟩ := K.out.cells
                go_wp2_with fail
                have hc := in1_any Av nv cv vs x.1 x.2 w31 SV.out (Sn.next FX.out FB.out)
                rw [HZ.out] at hc
                refine hc.mono ?_
                clear hc
                rintro e w32 ⟨rfl, b5⟩
                clear K0 K1 K2 K3
                have BL2 := Lib.hid (thn BL.out b5)
                have FB2 := Lib.hid (thn FB.out b5)
                replace SV := Lib.hid (SV.out.next b5)
                replace SM := Lib.hid (SM.out.next b5)
                replace K := Lib.hid (K.out.next b5)
                replace B := Lib.hid (thn B.out b5)
                clear b5
                clear BL FB
                have BL := BL2
                have FB := FB2
                clear BL2 FB2
                obtain ⟨K0, K1, K2, K3⟩ := K.out.cells
                go_wp2_with fail
                have hc := in1_any Ag ng cg gs x.1 x.2 w32 (HG.out.next B.out) (Sn.next FX.out FB.out)
                rw [HO2.out] at hc
                refine hc.mono ?_
                clear hc
                rintro e w33 ⟨rfl, b5⟩
                clear K0 K1 K2 K3
                have BL2 := Lib.hid (thn BL.out b5)
                replace SV := Lib.hid (SV.out.next b5)
                replace SM := Lib.hid (SM.out.next b5)
                replace K := Lib.hid (K.out.next b5)
                replace B := Lib.hid (thn B.out b5)
                clear b5
                clear BL
                have BL := BL2
                clear BL2
                go_wp2
                go_roundw
                case rel => exact ⟨j + 1, by omega, by go_num, BL⟩
                case measure => simp [intOf]; omega
              · skip
                obtain ⟨K0, K1, K2, K3⟩ := K.out.cells
                go_wp2_with fail
                have hc := in1_any Av nv cv vs x.1 x.2 w31 SV.out (Sn.next FX.out FB.out)
                rw [HZ.out] at hc
                refine hc.mono ?_
                clear hc
                rintro e w32 ⟨rfl, b5⟩
                clear K0 K1 K2 K3
                have BL2 := Lib.hid (thn BL.out b5)
                replace SV := Lib.hid (SV.out.next b5)
                replace SM := Lib.hid (SM.out.next b5)
                replace K := Lib.hid (K.out.next b5)
                replace B := Lib.hid (thn B.out b5)
                clear b5
                clear BL
                have BL := BL2
                clear BL2
                go_wp2
                go_roundw
                case rel => exact ⟨j + 1, by omega, by go_num, BL⟩
                case measure => simp [intOf]; omega
          · skip
            obtain rfl : nm = j := by omega
            clear BL
            go_wp2
            go_loopw [10, 19, 83] (fun _ _ iv wr => ∃ j : Nat, j ≤ nv ∧ iv = .int .i64 j ∧ Hid (Below v3.heap.size v3 wr)) (fun _ _ iv _ => nv - (intOf iv).toNat)
            case atStart => exact ⟨0, Nat.zero_le _, rfl, Below.refl _ _⟩
            case round =>
              obtain ⟨j, hj, rfl, BL⟩ := hrel
              obtain ⟨v4, rfl⟩ : ∃ v, v = wr := ⟨_, rfl⟩
              replace SV := Lib.hid (SV.out.next BL.out)
              replace SM := Lib.hid (SM.out.next BL.out)
              replace B := Lib.hid (thn B.out BL.out)
              have i0 : (0 : Int) ≤ (j : Int) := by omega
              by_cases hlt : j < nv
              · skip
                as_aux_lemma =>
                  have i1 : (j : Int) < (nv : Int) := by omega
                  obtain ⟨b, off, x, hA, hb, hx, hxm, c0, c1, c2', c3'⟩ := SV.out.at_ hlt
                  subst hA
                  have HO : Hid (hasN MD x.1.1 = true ∨ (hasN (ss.map (·.1)) x.1.1 = true ∧ hasN (gs.map (·.1)) x.1.1 = false)) := HMS.out.kept x.1 (List.mem_map.2 ⟨x, hxm, rfl⟩)
                  have FX := Lib.hid (SV.out.fl x hxm)
                  clear hx hxm hb
                  go_upto_region 19 with fail
                  clear c0 c1 c2' c3'
                  have hbl := below_lit v4 (.cells #[.int .u8 x.1.1, .int .u16 x.1.2.1, .int .u8 x.1.2.2.1, .slice x.2.1 x.2.2.1 x.2.2.2] 34)
                  replace SV := Lib.hid (SV.out.next hbl)
                  replace SM := Lib.hid (SM.out.next hbl)
                  replace B := Lib.hid (thn B.out hbl)
                  replace BL := Lib.hid (thn BL.out hbl)
                  replace FX : Hid (Fl _ x) := Sn.next FX.out hbl
                  clear hbl
                  have K : Hid (DBlk (v4.alloc (.cells #[.int .u8 x.1.1, .int .u16 x.1.2.1, .int .u8 x.1.2.2.1, .slice x.2.1 x.2.2.1 x.2.2.2] 34)) v4.heap.size x.1 x.2) := DBlk.new v4 x.1 x.2
                  generalize v4.alloc (.cells #[.int .u8 x.1.1, .int .u16 x.1.2.1, .int .u8 x.1.2.2.1, .slice x.2.1 x.2.2.1 x.2.2.2] 34) = w41 at *
                  obtain ⟨g, hg⟩ : ∃ g, v4.heap.size = g := ⟨_, rfl⟩
                  rw [hg] at K ⊢
                  clear hg
                  obtain ⟨z, HZ⟩ : ∃ z, Hid (hasN MD x.1.1 = z) := ⟨_, rfl⟩
                  cases z
                  · skip
                    have HO2 : Hid (hasN (ss.map (·.1)) x.1.1 = true ∧ hasN (gs.map (·.1)) x.1.1 = false) := HO.out.resolve_left (fun e => by rw [HZ.out] at e; cases e)
                    obtain ⟨K0, K1, K2, K3⟩ := K.out.cells
                    go_wp2_with fail
                    have hc := has_any Am nm cm ms x.1.1 w41 SM.out
                    rw [MM.out, HZ.out] at hc
                    refine hc.mono ?_
                    clear hc
                    rintro e w42 ⟨rfl, b5⟩
                    clear K0 K1 K2 K3
                    have BL2 := Lib.hid (thn BL.out b5)
                    replace SV := Lib.hid (SV.out.next b5)
                    replace SM := Lib.hid (SM.out.next b5)
                    replace K := Lib.hid (K.out.next b5)
                    replace B := Lib.hid (thn B.out b5)
                    clear b5
                    clear BL
                    have BL := BL2
                    clear BL2
                    obtain ⟨K0, K1, K2, K3⟩ := K.out.cells
                    go_wp2_with fail
                    have hc := has_any As ns cs ss x.1.1 w42 (HT.out.next B.out)
                    rw [HO2.out.1] at hc
                    refine hc.mono ?_
                    clear hc
                    rintro e w43 ⟨rfl, b5⟩
                    clear K0 K1 K2 K3
                    have BL2 := Lib.hid (thn BL.out b5)
                    replace SV := Lib.hid (SV.out.next b5)
                    replace SM := Lib.hid (SM.out.next b5)
                    replace K := Lib.hid (K.out.next b5)
                    replace B := Lib.hid (thn B.out b5)
                    clear b5
                    clear BL
                    have BL := BL2
                    clear BL2
                    obtain ⟨K0, K1, K2, K3⟩ := K.out.cells
                    go_wp2_with fail
                    have hc := has_any Ag ng cg gs x.1.1 w43 (HG.out.next B.out)
                    rw [HO2.out.2] at hc
                    refine hc.mono ?_
                    clear hc
                    rintro e w44 ⟨rfl, b5⟩
                    clear K0 K1 K2 K3
                    have BL2 := Lib.hid (thn BL.out b5)
                    replace SV := Lib.hid (SV.out.next b5)
                    replace SM := Lib.hid (SM.out.next b5)
                    replace K := Lib.hid (K.out.next b5)
                    replace B := Lib.hid (thn B.out b5)
                    clear b5
                    clear BL
                    have BL := BL2
                    clear BL2
                    go_wp2
                    go_roundw
                    case rel => exact ⟨j + 1, by omega, by go_num, BL⟩
                    case measure => simp [intOf]; omega
                  · skip
                    obtain ⟨K0, K1, K2, K3⟩ := K.out.cells
                    go_wp2_with fail
                    have hc := has_any Am nm cm ms x.1.1 w41 SM.out
                    rw [MM.out, HZ.out] at hc
                    refine hc.mono ?_
                    clear hc
                    rintro e w42 ⟨rfl, b5⟩
                    clear K0 K1 K2 K3
                    have BL2 := Lib.hid (thn BL.out b5)
                    replace SV := Lib.hid (SV.out.next b5)
                    replace SM := Lib.hid (SM.out.next b5)
                    replace K := Lib.hid (K.out.next b5)
                    replace B := Lib.hid (thn B.out b5)
                    clear b5
                    clear BL
                    have BL := BL2
                    clear BL2
                    go_wp2
                    go_roundw
                    case rel => exact ⟨j + 1, by omega, by go_num, BL⟩
                    case measure => simp [intOf]; omega
              · skip
                obtain rfl : nv = j := by omega
                clear BL
                have HR60 : Hid (RightD (vs.map (·.1)) self 60) := HRV.out.wider (by omega)
                obtain ⟨WD, HWD⟩ : ∃ m, Hid (mergeD (vs.map (·.1)) (gs.map (·.1)) ([].map (fun x : Dsc × Hd => x.1)) self 60 = m) := ⟨_, rfl⟩
                have HWS := Lib.hid (merge_says (got := gs.map (·.1)) (sent := [].map (fun x : Dsc × Hd => x.1)) HR60.out)
                have hwl := merge_len (got := gs.map (·.1)) (sent := [].map (fun x : Dsc × Hd => x.1)) HR60.out
                rw [HWD.out] at HWS hwl
                have HWL : Hid ((WD.length : Int) < 60) := by rw [List.length_map, List.length_map, ← HLV.out, ← HLg.out] at hwl; have := HFG2.out; unfold Hid; omega
                clear hwl
                go_wp2_with fail
                have hc := merge_any Av nv cv vs Ag ng cg gs none 0 0 [] self 60 v4 SV.out HFV.out (HG.out.next B.out) HFG.out (Sds.nil _) ⟨by decide, fun x hx => by cases hx⟩ (by decide) HR60.out
                rw [HWD.out] at hc
                refine hc.mono ?_
                clear hc
                rintro e w41 ⟨Aw, nw, cw, ws, rfl, mw, dw, b5⟩
                have SW := Lib.hid (dw.sds)
                have MW := Lib.hid (mw)
                replace SV := Lib.hid (SV.out.next b5)
                replace SM := Lib.hid (SM.out.next b5)
                replace B := Lib.hid (thn B.out b5)
                clear b5
                clear dw mw
                go_wp2
                go_loopw [10, 22, 115] (fun _ _ iv wr => ∃ j : Nat, j ≤ ng ∧ iv = .int .i64 j ∧ Hid (Below w41.heap.size w41 wr)) (fun _ _ iv _ => ng - (intOf iv).toNat)
                case atStart => exact ⟨0, Nat.zero_le _, rfl, Below.refl _ _⟩
                case round =>
                  obtain ⟨j, hj, rfl, BL⟩ := hrel
                  obtain ⟨v5, rfl⟩ : ∃ v, v = wr := ⟨_, rfl⟩
                  replace SV := Lib.hid (SV.out.next BL.out)
                  replace SM := Lib.hid (SM.out.next BL.out)
                  replace SW := Lib.hid (SW.out.next BL.out)
                  replace B := Lib.hid (thn B.out BL.out)
                  have i0 : (0 : Int) ≤ (j : Int) := by omega
                  by_cases hlt : j < ng
                  · skip
                    as_aux_lemma =>
                      have i1 : (j : Int) < (ng : Int) := by omega
                      obtain ⟨b, off, x, hA, hb, hx, hxm, c0, c1, c2', c3'⟩ := (HG.out.next B.out).at_ hlt
                      subst hA
                      have HIN : Hid (x.1 ∈ gs.map (·.1)) := List.mem_map.2 ⟨x, hxm, rfl⟩
                      have i16 := (HRg.out x hxm).2.1
                      have FX := Lib.hid ((HG.out.next B.out).fl x hxm)
                      clear hx hxm hb
                      go_upto_region 26 with fail
                      clear c0 c1 c2' c3'
                      have hbl := below_lit v5 (.cells #[.int .u8 x.1.1, .int .u16 x.1.2.1, .int .u8 x.1.2.2.1, .slice x.2.1 x.2.2.1 x.2.2.2] 34)
                      replace SV := Lib.hid (SV.out.next hbl)
                      replace SM := Lib.hid (SM.out.next hbl)
                      replace SW := Lib.hid (SW.out.next hbl)
                      replace B := Lib.hid (thn B.out hbl)
                      replace BL := Lib.hid (thn BL.out hbl)
                      replace FX : Hid (Fl _ x) := Sn.next FX.out hbl
                      clear hbl
                      have K : Hid (DBlk (v5.alloc (.cells #[.int .u8 x.1.1, .int .u16 x.1.2.1, .int .u8 x.1.2.2.1, .slice x.2.1 x.2.2.1 x.2.2.2] 34)) v5.heap.size x.1 x.2) := DBlk.new v5 x.1 x.2
                      generalize v5.alloc (.cells #[.int .u8 x.1.1, .int .u16 x.1.2.1, .int .u8 x.1.2.2.1, .slice x.2.1 x.2.2.1 x.2.2.2] 34) = w51 at *
                      obtain ⟨g, hg⟩ : ∃ g, v5.heap.size = g := ⟨_, rfl⟩
                      rw [hg] at K ⊢
                      clear hg
                      obtain ⟨i160, i161⟩ := i16
                      by_cases h1 : x.1.1 = self
                      · skip
                        have hb : (x.1.1 != self) = false := by simp [h1]
                        clear h1
                        obtain ⟨K0, K1, K2, K3⟩ := K.out.cells
                        by_cases hmn : (nm : Int) < rm
                        · skip
                          go_wp2
                          go_roundw
                          case rel => exact ⟨j + 1, by omega, by go_num, BL⟩
                          case measure => simp [intOf]; omega
                        · skip
                          go_wp2
                          go_roundw
                          case rel => exact ⟨j + 1, by omega, by go_num, BL⟩
                          case measure => simp [intOf]; omega
                      · skip
                        have hb : (x.1.1 != self) = true := by simp [h1]
                        by_cases h2 : x.1.2.1 = 0
                        · skip
                          have h3 : ¬ 0 < x.1.2.1 := by omega
                          clear h1 h2
                          obtain ⟨K0, K1, K2, K3⟩ := K.out.cells
                          by_cases hmn : (nm : Int) < rm
                          · skip
                            go_wp2
                            go_roundw
                            case rel => exact ⟨j + 1, by omega, by go_num, BL⟩
                            case measure => simp [intOf]; omega
                          · skip
                            go_wp2
                            go_roundw
                            case rel => exact ⟨j + 1, by omega, by go_num, BL⟩
                            case measure => simp [intOf]; omega
                        · skip
                          have h3 : 0 < x.1.2.1 := by omega
                          have HW1 : Hid (hasN WD x.1.1 = true) := HWS.out.there HWL.out x.1 HIN.out h1 h2
                          have HM1 : Hid ((nm : Int) < rm → hasN MD x.1.1 = true) := fun hl => HMS.out.there (by rw [← HLMD.out]; exact hl) x.1 HIN.out h1 h2
                          clear h1 h2
                          obtain ⟨K0, K1, K2, K3⟩ := K.out.cells
                          go_wp2_with fail
                          have hc := has_any Aw nw cw ws x.1.1 w51 SW.out
                          rw [MW.out, HW1.out] at hc
                          refine hc.mono ?_
                          clear hc
                          rintro e w52 ⟨rfl, b5⟩
                          clear K0 K1 K2 K3
                          have BL2 := Lib.hid (thn BL.out b5)
                          replace SV := Lib.hid (SV.out.next b5)
                          replace SM := Lib.hid (SM.out.next b5)
                          replace SW := Lib.hid (SW.out.next b5)
                          replace K := Lib.hid (K.out.next b5)
                          replace B := Lib.hid (thn B.out b5)
                          clear b5
                          clear BL
                          have BL := BL2
                          clear BL2
                          by_cases hmn : (nm : Int) < rm
                          · skip
                            obtain ⟨K0, K1, K2, K3⟩ := K.out.cells
                            go_wp2_with fail
                            have hc := has_any Am nm cm ms x.1.1 w52 SM.out
                            rw [MM.out, HM1.out hmn] at hc
                            refine hc.mono ?_
                            clear hc
                            rintro e w53 ⟨rfl, b5⟩
                            clear K0 K1 K2 K3
                            have BL2 := Lib.hid (thn BL.out b5)
                            replace SV := Lib.hid (SV.out.next b5)
                            replace SM := Lib.hid (SM.out.next b5)
                            replace SW := Lib.hid (SW.out.next b5)
                            replace K := Lib.hid (K.out.next b5)
                            replace B := Lib.hid (thn B.out b5)
                            clear b5
                            clear BL
                            have BL := BL2
                            clear BL2
                            go_wp2
                            go_roundw
                            case rel => exact ⟨j + 1, by omega, by go_num, BL⟩
                            case measure => simp [intOf]; omega
                          · skip
                            obtain ⟨K0, K1, K2, K3⟩ := K.out.cells
                            clear K0 K1 K2 K3
                            go_wp2
                            go_roundw
                            case rel => exact ⟨j + 1, by omega, by go_num, BL⟩
                            case measure => simp [intOf]; omega
                  · skip
                    obtain rfl : ng = j := by omega
                    clear BL
                    go_wp2_with fail
                    have hc := awake_any v5
                    refine hc.mono ?_
                    clear hc
                    rintro e w51 ⟨rfl, b5⟩
                    replace SV := Lib.hid (SV.out.next b5)
                    replace SM := Lib.hid (SM.out.next b5)
                    replace SW := Lib.hid (SW.out.next b5)
                    replace B := Lib.hid (thn B.out b5)
                    clear b5
                    go_wp2
                    go_ret
                    exact ⟨rfl, B.out⟩
end Go.Proofs.Ytgbnnllbpidlfaa
