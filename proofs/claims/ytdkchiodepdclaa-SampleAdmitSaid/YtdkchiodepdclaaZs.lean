/- Layer 11: SampleFill. -/
import Derived.Test.YtdkchiodepdclaaZw
import Derived.Test.YtdkchiodepdclaaRb9
import Derived.Deep.Cut
namespace Go.Proofs.Ytdkchiodepdclaa
open Go.RowKit
set_option linter.unusedVariables false
theorem hasN_find {ds : List Dsc} {n : Int} (h : hasN ds n = true) : 0 ≤ findI ds n := of_decide_eq_true h
theorem hasN_neg {ds : List Dsc} {n : Int} (h : hasN ds n = false) : ¬ 0 ≤ findI ds n := of_decide_eq_false h
set_option maxRecDepth 100000 in
set_option maxHeartbeats 40000000 in
theorem filllaw_walk (A : Option Addr) (n c : Nat) (xs : List (Dsc × Hd)) (Ag : Option Addr) (ng cg : Nat) (gs : List (Dsc × Hd)) (self room : Int) (w : World) (h : Sds w A n c xs) (hR : ∀ x ∈ xs, dscR x.1) (hg : Sds w Ag ng cg gs) (hRg : ∀ x ∈ gs, dscR x.1) (hse : byt self) (hrm : byt room) :
    Calls Try.prog 6 #[.slice A n c, .slice Ag ng cg, .int .u8 self, .int .u8 room] w fun e w' => e = .returned (.bool true) ∧ Below w.heap.size w w' := by
  have HL := Lib.hid h.len
  have HLg := Lib.hid hg.len
  have HR := Lib.hid hR
  have HRg := Lib.hid hRg
  have HS := Lib.hid h
  have HG := Lib.hid hg
  have HSF := Lib.hid hse
  have hgm := hg.max
  have hgc := hg.cap
  unfold maxLen at hgm
  have B := Lib.hid (Below.refl w.heap.size w)
  obtain ⟨f1, HF1⟩ : ∃ f, Hid (fewB (xs.map (·.1)) = f) := ⟨_, rfl⟩
  obtain ⟨f2, HF2⟩ : ∃ f, Hid (fewB (gs.map (·.1)) = f) := ⟨_, rfl⟩
  obtain ⟨rm, hrm1⟩ : ∃ r, Int.tmod room 21 = r := ⟨_, rfl⟩
  have rm0 : 0 ≤ rm := by rw [← hrm1]; exact Int.tmod_nonneg _ hrm.1
  have rm1 : rm ≤ 20 := by rw [← hrm1]; have := Int.tmod_lt_of_pos room (show (0 : Int) < 21 by decide); omega
  obtain ⟨hrmL, hrmU⟩ := hrm
  clear h hR hg hRg hse
  go_enter Try.func6, Try.ntmps6
  go_wp2_with fail
  have hc := few_any A n c xs w HS.out
  rw [HF1.out] at hc
  refine hc.mono ?_
  clear hc
  rintro e w1 ⟨rfl, b5⟩
  replace B := Lib.hid (thn B.out b5)
  clear b5
  cases f1
  · skip
    go_wp2_with fail
    have hc := awake_any w1
    refine hc.mono ?_
    clear hc
    rintro e w2 ⟨rfl, b5⟩
    replace B := Lib.hid (thn B.out b5)
    clear b5
    go_wp2
    go_ret
    exact ⟨rfl, B.out⟩
  · skip
    go_wp2_with fail
    have hc := few_any Ag ng cg gs w1 (HG.out.next B.out)
    rw [HF2.out] at hc
    refine hc.mono ?_
    clear hc
    rintro e w2 ⟨rfl, b5⟩
    replace B := Lib.hid (thn B.out b5)
    clear b5
    cases f2
    · skip
      go_wp2_with fail
      have hc := awake_any w2
      refine hc.mono ?_
      clear hc
      rintro e w3 ⟨rfl, b5⟩
      replace B := Lib.hid (thn B.out b5)
      clear b5
      go_wp2
      go_ret
      exact ⟨rfl, B.out⟩
    · skip
      have HFX := Lib.hid (few_fit HF1.out HL.out HR.out)
      have HFG := Lib.hid (few_fit HF2.out HLg.out HRg.out)
      go_wp2_with fail
      have hc := view_any A n c xs self rm w2 (HS.out.next B.out) HR.out rm0
      refine hc.mono ?_
      clear hc
      rintro e w3 ⟨Av, nv, cv, vs, rfl, hv, sv, b5⟩
      have SV := Lib.hid (sv.sds)
      have HVV := Lib.hid (hv)
      replace B := Lib.hid (thn B.out b5)
      clear b5
      clear sv hv
      have HFV : Hid (Fit nv vs) := view_fit HVV.out HFX.out (by omega) SV.out.len
      have HRV : Hid (RightD (vs.map (·.1)) self rm) := HVV.out.right
      have HLV := Lib.hid SV.out.len
      obtain ⟨FD, HFD⟩ : ∃ m, Hid (fillD (vs.map (·.1)) (gs.map (·.1)) self rm = m) := ⟨_, rfl⟩
      have HMS := Lib.hid (fill_says (gs := gs.map (·.1)) HRV.out)
      rw [HFD.out] at HMS
      go_wp2_with fail
      have hc := fill_any Av nv cv vs Ag ng cg gs self rm w3 SV.out HFV.out (HG.out.next B.out) HFG.out (by omega) HRV.out
      rw [HFD.out] at hc
      refine hc.mono ?_
      clear hc
      rintro e w4 ⟨Ao, no, co, os, rfl, mo, dO, b5⟩
      have SO := Lib.hid (dO.sds)
      have MO := Lib.hid (mo)
      replace SV := Lib.hid (SV.out.next b5)
      replace B := Lib.hid (thn B.out b5)
      clear b5
      clear dO mo
      have HLO : Hid (no = FD.length) := by unfold Hid; rw [SO.out.len, ← MO.out, List.length_map]
      have HRO : Hid (RightD (os.map (·.1)) self rm) := by unfold Hid; rw [MO.out]; exact HMS.out.right
      have HFO : Hid (Fit no os) := fit_of MO.out (by have := HMS.out.right.2.2.2; rw [← HLO.out] at this; omega) fun d hd => (HMS.out.of_ d hd).elim (fun h => by obtain ⟨y, hy, rfl⟩ := List.mem_map.1 h; exact HFV.out.all y hy) (fun h => by obtain ⟨y, hy, rfl⟩ := List.mem_map.1 h; exact HFG.out.all y hy)
      have nm1 : ¬ (no : Int) < (nv : Int) := by have h1 := HMS.out.more; rw [List.length_map, ← HLV.out] at h1; rw [← HLO.out] at h1; omega
      have nm3 : ¬ no < nv := by omega
      have nm4 : decide (no < nv) = false := decide_eq_false nm3
      have nm2 : no ≤ 20 := by have := HMS.out.right.2.2.2; rw [← HLO.out] at this; omega
      have nv2 : nv ≤ 20 := by have := HRV.out.2.2.2; rw [List.length_map, ← HLV.out] at this; omega
      go_wp2_with fail
      have hc := right_any Ao no co os self rm w4 SO.out (by omega)
      rw [show decide (RightD (os.map (·.1)) self rm) = true from decide_eq_true HRO.out] at hc
      refine hc.mono ?_
      clear hc
      rintro e w5 ⟨rfl, b5⟩
      replace SV := Lib.hid (SV.out.next b5)
      replace SO := Lib.hid (SO.out.next b5)
      replace B := Lib.hid (thn B.out b5)
      clear b5
      go_wp2
      go_loopw [8, 13, 51] (fun _ _ iv wr => ∃ j : Nat, j ≤ nv ∧ iv = .int .i64 j ∧ Hid (Below w5.heap.size w5 wr)) (fun _ _ iv _ => nv - (intOf iv).toNat)
      case atStart => exact ⟨0, Nat.zero_le _, rfl, Below.refl _ _⟩
      case round =>
        obtain ⟨j, hj, rfl, BL⟩ := hrel
        obtain ⟨v3, rfl⟩ : ∃ v, v = wr := ⟨_, rfl⟩
        replace SV := Lib.hid (SV.out.next BL.out)
        replace SO := Lib.hid (SO.out.next BL.out)
        replace B := Lib.hid (thn B.out BL.out)
        have i0 : (0 : Int) ≤ (j : Int) := by omega
        by_cases hlt : j < nv
        · skip
          as_aux_lemma =>
            have i1 : (j : Int) < (nv : Int) := by omega
            obtain ⟨b, off, x, hA, hb, hx, hxm, c0, c1, c2', c3'⟩ := SV.out.at_ hlt
            subst hA
            have HO : Hid (hasN FD x.1.1 = true) := HMS.out.kept x.1.1 (hasN_iff.2 ⟨x.1, List.mem_map.2 ⟨x, hxm, rfl⟩, rfl⟩)
            have FX := Lib.hid (SV.out.fl x hxm)
            clear hx hxm hb
            go_upto_region 11 with fail
            clear c0 c1 c2' c3'
            have hbl := below_lit v3 (.cells #[.int .u8 x.1.1, .int .u16 x.1.2.1, .int .u8 x.1.2.2.1, .slice x.2.1 x.2.2.1 x.2.2.2] 27)
            replace SV := Lib.hid (SV.out.next hbl)
            replace SO := Lib.hid (SO.out.next hbl)
            replace B := Lib.hid (thn B.out hbl)
            replace BL := Lib.hid (thn BL.out hbl)
            replace FX : Hid (Fl _ x) := Sn.next FX.out hbl
            clear hbl
            have K : Hid (DBlk (v3.alloc (.cells #[.int .u8 x.1.1, .int .u16 x.1.2.1, .int .u8 x.1.2.2.1, .slice x.2.1 x.2.2.1 x.2.2.2] 27)) v3.heap.size x.1 x.2) := DBlk.new v3 x.1 x.2
            generalize v3.alloc (.cells #[.int .u8 x.1.1, .int .u16 x.1.2.1, .int .u8 x.1.2.2.1, .slice x.2.1 x.2.2.1 x.2.2.2] 27) = w31 at *
            obtain ⟨g, hg⟩ : ∃ g, v3.heap.size = g := ⟨_, rfl⟩
            rw [hg] at K ⊢
            clear hg
            obtain ⟨f9, hf9⟩ : ∃ f, Hid (findI (os.map (·.1)) x.1.1 = f) := ⟨_, rfl⟩
            have hq0 : 0 ≤ f9 := by rw [← hf9.out, MO.out]; exact hasN_find HO.out
            have hq1 : ¬ f9 < 0 := by omega
            clear HO
            obtain ⟨K0, K1, K2, K3⟩ := K.out.cells
            go_wp2_with fail
            have hc := find_any Ao no co os x.1.1 w31 SO.out HFO.out ⟨self, rm, HRO.out⟩
            rw [hf9.out] at hc
            refine hc.mono ?_
            clear hc
            rintro e w32 ⟨rfl, b5⟩
            clear K0 K1 K2 K3
            have BL2 := Lib.hid (thn BL.out b5)
            replace SV := Lib.hid (SV.out.next b5)
            replace SO := Lib.hid (SO.out.next b5)
            replace K := Lib.hid (K.out.next b5)
            replace B := Lib.hid (thn B.out b5)
            clear b5
            clear BL
            have BL := BL2
            clear BL2
            go_wp2
            go_roundw
            case rel => exact ⟨j + 1, by omega, by go_num, BL⟩
            case measure => simp [intOf]; omega
        · skip
          obtain rfl : nv = j := by omega
          clear BL
          go_wp2
          go_loopw [8, 15, 63] (fun _ _ iv wr => ∃ j : Nat, j ≤ ng ∧ iv = .int .i64 j ∧ Hid (Below v3.heap.size v3 wr)) (fun _ _ iv _ => ng - (intOf iv).toNat)
          case atStart => exact ⟨0, Nat.zero_le _, rfl, Below.refl _ _⟩
          case round =>
            obtain ⟨j, hj, rfl, BL⟩ := hrel
            obtain ⟨v4, rfl⟩ : ∃ v, v = wr := ⟨_, rfl⟩
            replace SV := Lib.hid (SV.out.next BL.out)
            replace SO := Lib.hid (SO.out.next BL.out)
            replace B := Lib.hid (thn B.out BL.out)
            have i0 : (0 : Int) ≤ (j : Int) := by omega
            by_cases hlt : j < ng
            · skip
              as_aux_lemma =>
                have i1 : (j : Int) < (ng : Int) := by omega
                obtain ⟨b, off, x, hA, hb, hx, hxm, c0, c1, c2', c3'⟩ := (HG.out.next B.out).at_ hlt
                subst hA
                have HIN : Hid (x.1 ∈ gs.map (·.1)) := List.mem_map.2 ⟨x, hxm, rfl⟩
                have i16 := (HRg.out x hxm).2.1
                have FX := Lib.hid ((HG.out.next B.out).fl x hxm)
                clear hx hxm hb
                go_upto_region 17 with fail
                clear c0 c1 c2' c3'
                have hbl := below_lit v4 (.cells #[.int .u8 x.1.1, .int .u16 x.1.2.1, .int .u8 x.1.2.2.1, .slice x.2.1 x.2.2.1 x.2.2.2] 27)
                replace SV := Lib.hid (SV.out.next hbl)
                replace SO := Lib.hid (SO.out.next hbl)
                replace B := Lib.hid (thn B.out hbl)
                replace BL := Lib.hid (thn BL.out hbl)
                replace FX : Hid (Fl _ x) := Sn.next FX.out hbl
                clear hbl
                have K : Hid (DBlk (v4.alloc (.cells #[.int .u8 x.1.1, .int .u16 x.1.2.1, .int .u8 x.1.2.2.1, .slice x.2.1 x.2.2.1 x.2.2.2] 27)) v4.heap.size x.1 x.2) := DBlk.new v4 x.1 x.2
                generalize v4.alloc (.cells #[.int .u8 x.1.1, .int .u16 x.1.2.1, .int .u8 x.1.2.2.1, .slice x.2.1 x.2.2.1 x.2.2.2] 27) = w41 at *
                obtain ⟨g, hg⟩ : ∃ g, v4.heap.size = g := ⟨_, rfl⟩
                rw [hg] at K ⊢
                clear hg
                obtain ⟨i160, i161⟩ := i16
                by_cases h1 : x.1.1 = self
                · skip
                  have hb : (x.1.1 != self) = false := by simp [h1]
                  clear h1
                  obtain ⟨K0, K1, K2, K3⟩ := K.out.cells
                  go_wp2
                  go_roundw
                  case rel => exact ⟨j + 1, by omega, by go_num, BL⟩
                  case measure => simp [intOf]; omega
                · skip
                  have hb : (x.1.1 != self) = true := by simp [h1]
                  by_cases h2 : x.1.2.1 = 0
                  · skip
                    have h3 : ¬ 0 < x.1.2.1 := by omega
                    clear h1 h2
                    obtain ⟨K0, K1, K2, K3⟩ := K.out.cells
                    go_wp2
                    go_roundw
                    case rel => exact ⟨j + 1, by omega, by go_num, BL⟩
                    case measure => simp [intOf]; omega
                  · skip
                    have h3 : 0 < x.1.2.1 := by omega
                    have HM1 : Hid ((no : Int) < rm → hasN FD x.1.1 = true) := fun hl => HMS.out.there (by rw [← HLO.out]; exact hl) x.1 HIN.out h1 h2
                    clear h1 h2
                    obtain ⟨f9, hf9⟩ : ∃ f, Hid (findI (os.map (·.1)) x.1.1 = f) := ⟨_, rfl⟩
                    obtain ⟨K0, K1, K2, K3⟩ := K.out.cells
                    go_wp2_with fail
                    have hc := find_any Ao no co os x.1.1 w41 SO.out HFO.out ⟨self, rm, HRO.out⟩
                    rw [hf9.out] at hc
                    refine hc.mono ?_
                    clear hc
                    rintro e w42 ⟨rfl, b5⟩
                    clear K0 K1 K2 K3
                    have BL2 := Lib.hid (thn BL.out b5)
                    replace SV := Lib.hid (SV.out.next b5)
                    replace SO := Lib.hid (SO.out.next b5)
                    replace K := Lib.hid (K.out.next b5)
                    replace B := Lib.hid (thn B.out b5)
                    clear b5
                    clear BL
                    have BL := BL2
                    clear BL2
                    by_cases hmn : (no : Int) < rm
                    · skip
                      have hq0 : 0 ≤ f9 := by rw [← hf9.out, MO.out]; exact hasN_find (HM1.out hmn)
                      have hq1 : ¬ f9 < 0 := by omega
                      go_wp2
                      go_roundw
                      case rel => exact ⟨j + 1, by omega, by go_num, BL⟩
                      case measure => simp [intOf]; omega
                    · skip
                      have hmd : decide ((no : Int) < rm) = false := decide_eq_false hmn
                      by_cases hq1 : f9 < 0
                      · skip
                        go_wp2
                        go_roundw
                        case rel => exact ⟨j + 1, by omega, by go_num, BL⟩
                        case measure => simp [intOf]; omega
                      · skip
                        go_wp2
                        go_roundw
                        case rel => exact ⟨j + 1, by omega, by go_num, BL⟩
                        case measure => simp [intOf]; omega
            · skip
              obtain rfl : ng = j := by omega
              clear BL
              have HAG : Hid (fillD (os.map (·.1)) (gs.map (·.1)) self rm = FD) := by unfold Hid; rw [MO.out]; exact HMS.out.again
              go_wp2_with fail
              have hc := fill_any Ao no co os Ag ng cg gs self rm v4 SO.out HFO.out (HG.out.next B.out) HFG.out (by omega) HRO.out
              rw [HAG.out] at hc
              refine hc.mono ?_
              clear hc
              rintro e w41 ⟨Ap, np, cp, ps, rfl, mp, dp, b5⟩
              have SP := Lib.hid (dp.sds)
              have MP := Lib.hid (mp)
              replace SV := Lib.hid (SV.out.next b5)
              replace SO := Lib.hid (SO.out.next b5)
              replace B := Lib.hid (thn B.out b5)
              clear b5
              clear dp mp
              go_wp2_with fail
              have hc := descs_any Ap np cp ps Ao no co os w41 SP.out SO.out
              rw [show decide (ps.map (·.1) = os.map (·.1)) = true from decide_eq_true (MP.out.trans MO.out.symm)] at hc
              refine hc.mono ?_
              clear hc
              rintro e w42 ⟨rfl, b5⟩
              replace SV := Lib.hid (SV.out.next b5)
              replace SO := Lib.hid (SO.out.next b5)
              replace SP := Lib.hid (SP.out.next b5)
              replace B := Lib.hid (thn B.out b5)
              clear b5
              go_wp2_with fail
              have hc := awake_any w42
              refine hc.mono ?_
              clear hc
              rintro e w43 ⟨rfl, b5⟩
              replace SV := Lib.hid (SV.out.next b5)
              replace SO := Lib.hid (SO.out.next b5)
              replace SP := Lib.hid (SP.out.next b5)
              replace B := Lib.hid (thn B.out b5)
              clear b5
              go_wp2
              go_ret
              exact ⟨rfl, B.out⟩
end Go.Proofs.Ytdkchiodepdclaa
