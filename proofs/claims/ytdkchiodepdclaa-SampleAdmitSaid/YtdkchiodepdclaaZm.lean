/- Layer 11: SampleAdmit. -/
import Derived.Test.YtdkchiodepdclaaZs
namespace Go.Proofs.Ytdkchiodepdclaa
open Go.RowKit
set_option linter.unusedVariables false
theorem right_self {ds : List Dsc} {me room : Int} (h : RightD ds me room) : hasN ds me = false := hasN_false.2 fun d hd => (h.1 d hd).1
set_option maxRecDepth 100000 in
set_option maxHeartbeats 40000000 in
theorem admitlaw_walk (A : Option Addr) (n c : Nat) (xs : List (Dsc × Hd)) (d : Dsc) (hd : Hd) (self room : Int) (w : World) (h : Sds w A n c xs) (hR : ∀ x ∈ xs, dscR x.1) (fd : Fl w (d, hd)) (rd : dscR d) (hse : byt self) (hrm : byt room) :
    Calls Try.prog 5 #[.slice A n c, (.agg #[.int .u8 d.1, .int .u16 d.2.1, .int .u8 d.2.2.1, .slice hd.1 hd.2.1 hd.2.2]), .int .u8 self, .int .u8 room] w fun e w' => e = .returned (.bool true) ∧ Below w.heap.size w w' := by
  have HL := Lib.hid h.len
  have HR := Lib.hid hR
  have HS := Lib.hid h
  have HSF := Lib.hid hse
  have FD : Hid (Fl w (d, hd)) := fd
  have HLD : Hid (hd.2.1 = d.2.2.2.length) := sp_len fd
  have HRD := Lib.hid rd
  obtain ⟨ri0, ri1⟩ := rd.2.1
  have B := Lib.hid (below_lit w (.cells #[.int .u8 d.1, .int .u16 d.2.1, .int .u8 d.2.2.1, .slice hd.1 hd.2.1 hd.2.2] 27))
  have KD : Hid (DBlk (w.alloc (.cells #[.int .u8 d.1, .int .u16 d.2.1, .int .u8 d.2.2.1, .slice hd.1 hd.2.1 hd.2.2] 27)) w.heap.size d hd) := DBlk.new w d hd
  obtain ⟨f1, HF1⟩ : ∃ f, Hid (fewB (xs.map (·.1)) = f) := ⟨_, rfl⟩
  obtain ⟨rm, hrm1⟩ : ∃ r, Int.tmod room 21 = r := ⟨_, rfl⟩
  have rm0 : 0 ≤ rm := by rw [← hrm1]; exact Int.tmod_nonneg _ hrm.1
  have rm1 : rm ≤ 20 := by rw [← hrm1]; have := Int.tmod_lt_of_pos room (show (0 : Int) < 21 by decide); omega
  obtain ⟨hrmL, hrmU⟩ := hrm
  clear h hR fd rd hse
  go_enter Try.func5, Try.ntmps5
  go_upto_region 1 with fail
  generalize w.alloc _ = w1 at *
  obtain ⟨g4, hg⟩ : ∃ g, w.heap.size = g := ⟨_, rfl⟩
  rw [hg] at KD ⊢
  clear hg
  obtain ⟨KD0, KD1, KD2, KD3⟩ := KD.out.cells
  go_wp2_with fail
  have hc := few_any A n c xs w1 (HS.out.next B.out)
  rw [HF1.out] at hc
  refine hc.mono ?_
  clear hc
  rintro e w2 ⟨rfl, b5⟩
  clear KD0 KD1 KD2 KD3
  replace KD := Lib.hid (KD.out.next b5)
  replace B := Lib.hid (thn B.out b5)
  clear b5
  cases f1
  · skip
    obtain ⟨KD0, KD1, KD2, KD3⟩ := KD.out.cells
    go_wp2_with fail
    have hc := awake_any w2
    refine hc.mono ?_
    clear hc
    rintro e w3 ⟨rfl, b5⟩
    clear KD0 KD1 KD2 KD3
    replace KD := Lib.hid (KD.out.next b5)
    replace B := Lib.hid (thn B.out b5)
    clear b5
    go_wp2
    go_ret
    exact ⟨rfl, B.out⟩
  · skip
    by_cases l8 : (8 : Int) < (hd.2.1 : Int)
    · skip
      obtain ⟨KD0, KD1, KD2, KD3⟩ := KD.out.cells
      go_wp2_with fail
      have hc := awake_any w2
      refine hc.mono ?_
      clear hc
      rintro e w3 ⟨rfl, b5⟩
      clear KD0 KD1 KD2 KD3
      replace KD := Lib.hid (KD.out.next b5)
      replace B := Lib.hid (thn B.out b5)
      clear b5
      go_wp2
      go_ret
      exact ⟨rfl, B.out⟩
    · skip
      have HFX := Lib.hid (few_fit HF1.out HL.out HR.out)
      have F1D : Hid (Fit1 d) := ⟨HRD.out, by have := HLD.out; omega⟩
      obtain ⟨KD0, KD1, KD2, KD3⟩ := KD.out.cells
      go_wp2_with fail
      have hc := view_any A n c xs self rm w2 (HS.out.next B.out) HR.out rm0
      refine hc.mono ?_
      clear hc
      rintro e w3 ⟨Av, nv, cv, vs, rfl, hv, sv, b5⟩
      clear KD0 KD1 KD2 KD3
      have SV := Lib.hid (sv.sds)
      have HVV := Lib.hid (hv)
      replace KD := Lib.hid (KD.out.next b5)
      replace B := Lib.hid (thn B.out b5)
      clear b5
      clear sv hv
      have HFV : Hid (Fit nv vs) := view_fit HVV.out HFX.out (by omega) SV.out.len
      have HRV : Hid (RightD (vs.map (·.1)) self rm) := HVV.out.right
      have HLV := Lib.hid SV.out.len
      obtain ⟨AD, HAD⟩ : ∃ m, Hid (admitD (vs.map (·.1)) d self rm = m) := ⟨_, rfl⟩
      have HMS := Lib.hid (admit_says (d := d) HRV.out)
      rw [HAD.out] at HMS
      obtain ⟨KD0, KD1, KD2, KD3⟩ := KD.out.cells
      go_wp2_with fail
      have hc := admit_any Av nv cv vs d hd self rm w3 SV.out HFV.out (Sn.next FD.out B.out) F1D.out HRV.out
      rw [HAD.out] at hc
      refine hc.mono ?_
      clear hc
      rintro e w4 ⟨Ao, no, co, os, rfl, mo, dO, b5⟩
      clear KD0 KD1 KD2 KD3
      have SO := Lib.hid (dO.sds)
      have MO := Lib.hid (mo)
      replace KD := Lib.hid (KD.out.next b5)
      replace SV := Lib.hid (SV.out.next b5)
      replace B := Lib.hid (thn B.out b5)
      clear b5
      clear dO mo
      have HLO : Hid (no = AD.length) := by unfold Hid; rw [SO.out.len, ← MO.out, List.length_map]
      have HRO : Hid (RightD (os.map (·.1)) self rm) := by unfold Hid; rw [MO.out]; exact HMS.out.right
      have HFO : Hid (Fit no os) := fit_of MO.out (by have := HMS.out.right.2.2.2; rw [← HLO.out] at this; omega) fun d hd => (HMS.out.of_ d hd).elim (fun h => by rw [h]; exact F1D.out) (fun h => by obtain ⟨y, hy, rfl⟩ := List.mem_map.1 h; exact HFV.out.all y hy)
      have nm1 : ¬ (no : Int) < (nv : Int) := by have h1 := HMS.out.more; rw [List.length_map, ← HLV.out] at h1; rw [← HLO.out] at h1; omega
      have nm3 : ¬ no < nv := by omega
      have nm4 : decide (no < nv) = false := decide_eq_false nm3
      have nm2 : no ≤ 20 := by have := HMS.out.right.2.2.2; rw [← HLO.out] at this; omega
      have nv2 : nv ≤ 20 := by have := HRV.out.2.2.2; rw [List.length_map, ← HLV.out] at this; omega
      have nm5 : ¬ (nv : Int) + 1 < (no : Int) := by have h1 := HMS.out.most; rw [List.length_map, ← HLV.out] at h1; rw [← HLO.out] at h1; omega
      have nm6 : ¬ nv + 1 < no := by omega
      have nm7 : decide (nv + 1 < no) = false := decide_eq_false nm6
      obtain ⟨KD0, KD1, KD2, KD3⟩ := KD.out.cells
      go_wp2_with fail
      have hc := right_any Ao no co os self rm w4 SO.out (by omega)
      rw [show decide (RightD (os.map (·.1)) self rm) = true from decide_eq_true HRO.out] at hc
      refine hc.mono ?_
      clear hc
      rintro e w5 ⟨rfl, b5⟩
      clear KD0 KD1 KD2 KD3
      replace KD := Lib.hid (KD.out.next b5)
      replace SV := Lib.hid (SV.out.next b5)
      replace SO := Lib.hid (SO.out.next b5)
      replace B := Lib.hid (thn B.out b5)
      clear b5
      obtain ⟨f8, hf8⟩ : ∃ f, Hid (findI (os.map (·.1)) d.1 = f) := ⟨_, rfl⟩
      obtain ⟨KD0, KD1, KD2, KD3⟩ := KD.out.cells
      go_wp2_with fail
      have hc := find_any Ao no co os d.1 w5 SO.out HFO.out ⟨self, rm, HRO.out⟩
      rw [hf8.out] at hc
      refine hc.mono ?_
      clear hc
      rintro e w6 ⟨rfl, b5⟩
      clear KD0 KD1 KD2 KD3
      replace KD := Lib.hid (KD.out.next b5)
      replace SV := Lib.hid (SV.out.next b5)
      replace SO := Lib.hid (SO.out.next b5)
      replace B := Lib.hid (thn B.out b5)
      clear b5
      by_cases h1 : d.1 = self
      · skip
        have hb : (d.1 != self) = false := by simp [h1]
        have hb2 : (d.1 == self) = true := by simp [h1]
        have hq0 : f8 < 0 := by have := hasN_neg (right_self HRO.out); rw [← h1, hf8.out] at this; omega
        have hq1 : ¬ 0 ≤ f8 := by omega
        have hq2 : decide (0 ≤ f8) = false := decide_eq_false hq1
        clear h1
        obtain ⟨KD0, KD1, KD2, KD3⟩ := KD.out.cells
        as_aux_lemma =>
          go_wp2
          go_loopw [8, 14, 15, 16, 93] (fun _ s14 _ _ iv wr => ∃ (j lo : Nat), j ≤ nv ∧ s14 = .int .i64 (lo : Int) ∧ iv = .int .i64 j ∧ lo ≤ 1 ∧ Hid (lo = 1 → oldI (vs.map (·.1)) < (j : Int)) ∧ Hid (Below w6.heap.size w6 wr)) (fun _ _ _ _ iv _ => nv - (intOf iv).toNat)
          case atStart => exact ⟨0, 0, Nat.zero_le _, rfl, rfl, by decide, (fun h => by cases h), Below.refl _ _⟩
          case round =>
            obtain ⟨j, lo, hj, rfl, rfl, hlo, HLW, BL⟩ := hrel
            obtain ⟨v3, rfl⟩ : ∃ v, v = wr := ⟨_, rfl⟩
            clear KD0 KD1 KD2 KD3
            replace KD := Lib.hid (KD.out.next BL.out)
            replace SV := Lib.hid (SV.out.next BL.out)
            replace SO := Lib.hid (SO.out.next BL.out)
            replace B := Lib.hid (thn B.out BL.out)
            have i0 : (0 : Int) ≤ (j : Int) := by omega
            have l0 : (0 : Int) ≤ (lo : Int) := by omega
            by_cases hlt : j < nv
            · skip
              as_aux_lemma =>
                have i1 : (j : Int) < (nv : Int) := by omega
                obtain ⟨b, off, x, hA, hb, hx, hxm, c0, c1, c2', c3'⟩ := SV.out.at_ hlt
                subst hA
                have HO : Hid (hasN AD x.1.1 = true ∨ ((j : Int) = oldI (vs.map (·.1)) ∧ ¬ ((vs.map (·.1)).length : Int) < rm)) := HMS.out.kept j x.1 (by rw [List.getElem?_map, hx]; rfl)
                have FX := Lib.hid (SV.out.fl x hxm)
                clear hx hxm hb
                go_upto_region 16 with fail
                clear c0 c1 c2' c3'
                have hbl := below_lit v3 (.cells #[.int .u8 x.1.1, .int .u16 x.1.2.1, .int .u8 x.1.2.2.1, .slice x.2.1 x.2.2.1 x.2.2.2] 27)
                replace KD := Lib.hid (KD.out.next hbl)
                replace SV := Lib.hid (SV.out.next hbl)
                replace SO := Lib.hid (SO.out.next hbl)
                replace B := Lib.hid (thn B.out hbl)
                replace BL := Lib.hid (thn BL.out hbl)
                replace FX : Hid (Fl _ x) := Sn.next FX.out hbl
                clear hbl
                have K : Hid (DBlk (v3.alloc (.cells #[.int .u8 x.1.1, .int .u16 x.1.2.1, .int .u8 x.1.2.2.1, .slice x.2.1 x.2.2.1 x.2.2.2] 27)) v3.heap.size x.1 x.2) := DBlk.new v3 x.1 x.2
                generalize v3.alloc (.cells #[.int .u8 x.1.1, .int .u16 x.1.2.1, .int .u8 x.1.2.2.1, .slice x.2.1 x.2.2.1 x.2.2.2] 27) = w31 at *
                obtain ⟨g, hg⟩ : ∃ g, v3.heap.size = g := ⟨_, rfl⟩
                rw [hg] at K ⊢
                clear hg
                obtain ⟨f9, hf9⟩ : ∃ f, Hid (findI (os.map (·.1)) x.1.1 = f) := ⟨_, rfl⟩
                obtain ⟨K0, K1, K2, K3⟩ := K.out.cells
                go_wp2_with fail
                have hc := find_any Ao no co os x.1.1 w31 SO.out HFO.out ⟨self, rm, HRO.out⟩
                rw [hf9.out] at hc
                refine hc.mono ?_
                clear hc
                rintro e w32 ⟨rfl, b5⟩
                clear K0 K1 K2 K3
                have BL2 := Lib.hid (thn BL.out b5)
                replace KD := Lib.hid (KD.out.next b5)
                replace SV := Lib.hid (SV.out.next b5)
                replace SO := Lib.hid (SO.out.next b5)
                replace K := Lib.hid (K.out.next b5)
                replace B := Lib.hid (thn B.out b5)
                clear b5
                clear BL
                have BL := BL2
                clear BL2
                by_cases hq : f9 < 0
                · skip
                  have HX : Hid ((j : Int) = oldI (vs.map (·.1)) ∧ ¬ (nv : Int) < rm) := by
                    have h1 := HO.out.resolve_left (fun e => by have := hasN_find e; rw [← MO.out, hf9.out] at this; omega)
                    rw [List.length_map, ← HLV.out] at h1
                    exact ⟨h1.1, by have := h1.2; omega⟩
                  obtain rfl : lo = 0 := by rcases (by omega : lo = 0 ∨ lo = 1) with h | h; exact h; have h1 := HLW.out h; have h2 := HX.out.1; omega
                  have hmn : ¬ (nv : Int) < rm := HX.out.2
                  have hmd : decide ((nv : Int) < rm) = false := decide_eq_false hmn
                  have HX2 : Hid (oldI (vs.map (·.1)) < ((j + 1 : Nat) : Int)) := by have := HX.out.1; unfold Hid; omega
                  obtain ⟨K0, K1, K2, K3⟩ := K.out.cells
                  go_wp2_with fail
                  have hc := oldest_any _ nv cv vs w32 SV.out
                  rw [← HX.out.1] at hc
                  refine hc.mono ?_
                  clear hc
                  rintro e w33 ⟨rfl, b5⟩
                  clear K0 K1 K2 K3
                  have BL2 := Lib.hid (thn BL.out b5)
                  replace KD := Lib.hid (KD.out.next b5)
                  replace SV := Lib.hid (SV.out.next b5)
                  replace SO := Lib.hid (SO.out.next b5)
                  replace K := Lib.hid (K.out.next b5)
                  replace B := Lib.hid (thn B.out b5)
                  clear b5
                  clear BL
                  have BL := BL2
                  clear BL2
                  clear HLW HX HO
                  go_wp2
                  go_roundw
                  case rel => exact ⟨j + 1, 1, by omega, by go_num, by go_num, by decide, (fun _ => HX2.out), BL⟩
                  case measure => simp [intOf]; omega
                · skip
                  have HX2 : Hid (lo = 1 → oldI (vs.map (·.1)) < ((j + 1 : Nat) : Int)) := fun h => by have := HLW.out h; omega
                  clear HLW HO
                  go_wp2
                  go_roundw
                  case rel => exact ⟨j + 1, lo, by omega, rfl, by go_num, hlo, HX2, BL⟩
                  case measure => simp [intOf]; omega
            · skip
              obtain rfl : nv = j := by omega
              clear BL HLW
              have l1 : (lo : Int) ≤ 1 := by omega
              go_wp2_with fail
              have hc := awake_any v3
              refine hc.mono ?_
              clear hc
              rintro e w31 ⟨rfl, b5⟩
              replace KD := Lib.hid (KD.out.next b5)
              replace SV := Lib.hid (SV.out.next b5)
              replace SO := Lib.hid (SO.out.next b5)
              replace B := Lib.hid (thn B.out b5)
              clear b5
              go_wp2
              go_ret
              exact ⟨rfl, B.out⟩
      · skip
        have hb : (d.1 != self) = true := by simp [h1]
        have hb2 : (d.1 == self) = false := by simp [h1]
        by_cases h2 : d.2.1 = 0
        · skip
          have h3 : ¬ 0 < d.2.1 := by omega
          clear h1 h2
          obtain ⟨KD0, KD1, KD2, KD3⟩ := KD.out.cells
          as_aux_lemma =>
            go_wp2
            go_loopw [8, 14, 15, 16, 93] (fun _ s14 _ _ iv wr => ∃ (j lo : Nat), j ≤ nv ∧ s14 = .int .i64 (lo : Int) ∧ iv = .int .i64 j ∧ lo ≤ 1 ∧ Hid (lo = 1 → oldI (vs.map (·.1)) < (j : Int)) ∧ Hid (Below w6.heap.size w6 wr)) (fun _ _ _ _ iv _ => nv - (intOf iv).toNat)
            case atStart => exact ⟨0, 0, Nat.zero_le _, rfl, rfl, by decide, (fun h => by cases h), Below.refl _ _⟩
            case round =>
              obtain ⟨j, lo, hj, rfl, rfl, hlo, HLW, BL⟩ := hrel
              obtain ⟨v3, rfl⟩ : ∃ v, v = wr := ⟨_, rfl⟩
              clear KD0 KD1 KD2 KD3
              replace KD := Lib.hid (KD.out.next BL.out)
              replace SV := Lib.hid (SV.out.next BL.out)
              replace SO := Lib.hid (SO.out.next BL.out)
              replace B := Lib.hid (thn B.out BL.out)
              have i0 : (0 : Int) ≤ (j : Int) := by omega
              have l0 : (0 : Int) ≤ (lo : Int) := by omega
              by_cases hlt : j < nv
              · skip
                as_aux_lemma =>
                  have i1 : (j : Int) < (nv : Int) := by omega
                  obtain ⟨b, off, x, hA, hb, hx, hxm, c0, c1, c2', c3'⟩ := SV.out.at_ hlt
                  subst hA
                  have HO : Hid (hasN AD x.1.1 = true ∨ ((j : Int) = oldI (vs.map (·.1)) ∧ ¬ ((vs.map (·.1)).length : Int) < rm)) := HMS.out.kept j x.1 (by rw [List.getElem?_map, hx]; rfl)
                  have FX := Lib.hid (SV.out.fl x hxm)
                  clear hx hxm hb
                  go_upto_region 16 with fail
                  clear c0 c1 c2' c3'
                  have hbl := below_lit v3 (.cells #[.int .u8 x.1.1, .int .u16 x.1.2.1, .int .u8 x.1.2.2.1, .slice x.2.1 x.2.2.1 x.2.2.2] 27)
                  replace KD := Lib.hid (KD.out.next hbl)
                  replace SV := Lib.hid (SV.out.next hbl)
                  replace SO := Lib.hid (SO.out.next hbl)
                  replace B := Lib.hid (thn B.out hbl)
                  replace BL := Lib.hid (thn BL.out hbl)
                  replace FX : Hid (Fl _ x) := Sn.next FX.out hbl
                  clear hbl
                  have K : Hid (DBlk (v3.alloc (.cells #[.int .u8 x.1.1, .int .u16 x.1.2.1, .int .u8 x.1.2.2.1, .slice x.2.1 x.2.2.1 x.2.2.2] 27)) v3.heap.size x.1 x.2) := DBlk.new v3 x.1 x.2
                  generalize v3.alloc (.cells #[.int .u8 x.1.1, .int .u16 x.1.2.1, .int .u8 x.1.2.2.1, .slice x.2.1 x.2.2.1 x.2.2.2] 27) = w31 at *
                  obtain ⟨g, hg⟩ : ∃ g, v3.heap.size = g := ⟨_, rfl⟩
                  rw [hg] at K ⊢
                  clear hg
                  obtain ⟨f9, hf9⟩ : ∃ f, Hid (findI (os.map (·.1)) x.1.1 = f) := ⟨_, rfl⟩
                  obtain ⟨K0, K1, K2, K3⟩ := K.out.cells
                  go_wp2_with fail
                  have hc := find_any Ao no co os x.1.1 w31 SO.out HFO.out ⟨self, rm, HRO.out⟩
                  rw [hf9.out] at hc
                  refine hc.mono ?_
                  clear hc
                  rintro e w32 ⟨rfl, b5⟩
                  clear K0 K1 K2 K3
                  have BL2 := Lib.hid (thn BL.out b5)
                  replace KD := Lib.hid (KD.out.next b5)
                  replace SV := Lib.hid (SV.out.next b5)
                  replace SO := Lib.hid (SO.out.next b5)
                  replace K := Lib.hid (K.out.next b5)
                  replace B := Lib.hid (thn B.out b5)
                  clear b5
                  clear BL
                  have BL := BL2
                  clear BL2
                  by_cases hq : f9 < 0
                  · skip
                    have HX : Hid ((j : Int) = oldI (vs.map (·.1)) ∧ ¬ (nv : Int) < rm) := by
                      have h1 := HO.out.resolve_left (fun e => by have := hasN_find e; rw [← MO.out, hf9.out] at this; omega)
                      rw [List.length_map, ← HLV.out] at h1
                      exact ⟨h1.1, by have := h1.2; omega⟩
                    obtain rfl : lo = 0 := by rcases (by omega : lo = 0 ∨ lo = 1) with h | h; exact h; have h1 := HLW.out h; have h2 := HX.out.1; omega
                    have hmn : ¬ (nv : Int) < rm := HX.out.2
                    have hmd : decide ((nv : Int) < rm) = false := decide_eq_false hmn
                    have HX2 : Hid (oldI (vs.map (·.1)) < ((j + 1 : Nat) : Int)) := by have := HX.out.1; unfold Hid; omega
                    obtain ⟨K0, K1, K2, K3⟩ := K.out.cells
                    go_wp2_with fail
                    have hc := oldest_any _ nv cv vs w32 SV.out
                    rw [← HX.out.1] at hc
                    refine hc.mono ?_
                    clear hc
                    rintro e w33 ⟨rfl, b5⟩
                    clear K0 K1 K2 K3
                    have BL2 := Lib.hid (thn BL.out b5)
                    replace KD := Lib.hid (KD.out.next b5)
                    replace SV := Lib.hid (SV.out.next b5)
                    replace SO := Lib.hid (SO.out.next b5)
                    replace K := Lib.hid (K.out.next b5)
                    replace B := Lib.hid (thn B.out b5)
                    clear b5
                    clear BL
                    have BL := BL2
                    clear BL2
                    clear HLW HX HO
                    go_wp2
                    go_roundw
                    case rel => exact ⟨j + 1, 1, by omega, by go_num, by go_num, by decide, (fun _ => HX2.out), BL⟩
                    case measure => simp [intOf]; omega
                  · skip
                    have HX2 : Hid (lo = 1 → oldI (vs.map (·.1)) < ((j + 1 : Nat) : Int)) := fun h => by have := HLW.out h; omega
                    clear HLW HO
                    go_wp2
                    go_roundw
                    case rel => exact ⟨j + 1, lo, by omega, rfl, by go_num, hlo, HX2, BL⟩
                    case measure => simp [intOf]; omega
              · skip
                obtain rfl : nv = j := by omega
                clear BL HLW
                have l1 : (lo : Int) ≤ 1 := by omega
                go_wp2_with fail
                have hc := awake_any v3
                refine hc.mono ?_
                clear hc
                rintro e w31 ⟨rfl, b5⟩
                replace KD := Lib.hid (KD.out.next b5)
                replace SV := Lib.hid (SV.out.next b5)
                replace SO := Lib.hid (SO.out.next b5)
                replace B := Lib.hid (thn B.out b5)
                clear b5
                go_wp2
                go_ret
                exact ⟨rfl, B.out⟩
        · skip
          have h3 : 0 < d.2.1 := by omega
          by_cases h4 : 0 < rm
          · skip
            have hq0 : 0 ≤ f8 := by rw [← hf8.out, MO.out]; exact hasN_find (HMS.out.there h1 h2 h4)
            have hq1 : ¬ f8 < 0 := by omega
            clear h1 h2
            obtain ⟨KD0, KD1, KD2, KD3⟩ := KD.out.cells
            as_aux_lemma =>
              go_wp2
              go_loopw [8, 14, 15, 16, 93] (fun _ s14 _ _ iv wr => ∃ (j lo : Nat), j ≤ nv ∧ s14 = .int .i64 (lo : Int) ∧ iv = .int .i64 j ∧ lo ≤ 1 ∧ Hid (lo = 1 → oldI (vs.map (·.1)) < (j : Int)) ∧ Hid (Below w6.heap.size w6 wr)) (fun _ _ _ _ iv _ => nv - (intOf iv).toNat)
              case atStart => exact ⟨0, 0, Nat.zero_le _, rfl, rfl, by decide, (fun h => by cases h), Below.refl _ _⟩
              case round =>
                obtain ⟨j, lo, hj, rfl, rfl, hlo, HLW, BL⟩ := hrel
                obtain ⟨v3, rfl⟩ : ∃ v, v = wr := ⟨_, rfl⟩
                clear KD0 KD1 KD2 KD3
                replace KD := Lib.hid (KD.out.next BL.out)
                replace SV := Lib.hid (SV.out.next BL.out)
                replace SO := Lib.hid (SO.out.next BL.out)
                replace B := Lib.hid (thn B.out BL.out)
                have i0 : (0 : Int) ≤ (j : Int) := by omega
                have l0 : (0 : Int) ≤ (lo : Int) := by omega
                by_cases hlt : j < nv
                · skip
                  as_aux_lemma =>
                    have i1 : (j : Int) < (nv : Int) := by omega
                    obtain ⟨b, off, x, hA, hb, hx, hxm, c0, c1, c2', c3'⟩ := SV.out.at_ hlt
                    subst hA
                    have HO : Hid (hasN AD x.1.1 = true ∨ ((j : Int) = oldI (vs.map (·.1)) ∧ ¬ ((vs.map (·.1)).length : Int) < rm)) := HMS.out.kept j x.1 (by rw [List.getElem?_map, hx]; rfl)
                    have FX := Lib.hid (SV.out.fl x hxm)
                    clear hx hxm hb
                    go_upto_region 16 with fail
                    clear c0 c1 c2' c3'
                    have hbl := below_lit v3 (.cells #[.int .u8 x.1.1, .int .u16 x.1.2.1, .int .u8 x.1.2.2.1, .slice x.2.1 x.2.2.1 x.2.2.2] 27)
                    replace KD := Lib.hid (KD.out.next hbl)
                    replace SV := Lib.hid (SV.out.next hbl)
                    replace SO := Lib.hid (SO.out.next hbl)
                    replace B := Lib.hid (thn B.out hbl)
                    replace BL := Lib.hid (thn BL.out hbl)
                    replace FX : Hid (Fl _ x) := Sn.next FX.out hbl
                    clear hbl
                    have K : Hid (DBlk (v3.alloc (.cells #[.int .u8 x.1.1, .int .u16 x.1.2.1, .int .u8 x.1.2.2.1, .slice x.2.1 x.2.2.1 x.2.2.2] 27)) v3.heap.size x.1 x.2) := DBlk.new v3 x.1 x.2
                    generalize v3.alloc (.cells #[.int .u8 x.1.1, .int .u16 x.1.2.1, .int .u8 x.1.2.2.1, .slice x.2.1 x.2.2.1 x.2.2.2] 27) = w31 at *
                    obtain ⟨g, hg⟩ : ∃ g, v3.heap.size = g := ⟨_, rfl⟩
                    rw [hg] at K ⊢
                    clear hg
                    obtain ⟨f9, hf9⟩ : ∃ f, Hid (findI (os.map (·.1)) x.1.1 = f) := ⟨_, rfl⟩
                    obtain ⟨K0, K1, K2, K3⟩ := K.out.cells
                    go_wp2_with fail
                    have hc := find_any Ao no co os x.1.1 w31 SO.out HFO.out ⟨self, rm, HRO.out⟩
                    rw [hf9.out] at hc
                    refine hc.mono ?_
                    clear hc
                    rintro e w32 ⟨rfl, b5⟩
                    clear K0 K1 K2 K3
                    have BL2 := Lib.hid (thn BL.out b5)
                    replace KD := Lib.hid (KD.out.next b5)
                    replace SV := Lib.hid (SV.out.next b5)
                    replace SO := Lib.hid (SO.out.next b5)
                    replace K := Lib.hid (K.out.next b5)
                    replace B := Lib.hid (thn B.out b5)
                    clear b5
                    clear BL
                    have BL := BL2
                    clear BL2
                    by_cases hq : f9 < 0
                    · skip
                      have HX : Hid ((j : Int) = oldI (vs.map (·.1)) ∧ ¬ (nv : Int) < rm) := by
                        have h1 := HO.out.resolve_left (fun e => by have := hasN_find e; rw [← MO.out, hf9.out] at this; omega)
                        rw [List.length_map, ← HLV.out] at h1
                        exact ⟨h1.1, by have := h1.2; omega⟩
                      obtain rfl : lo = 0 := by rcases (by omega : lo = 0 ∨ lo = 1) with h | h; exact h; have h1 := HLW.out h; have h2 := HX.out.1; omega
                      have hmn : ¬ (nv : Int) < rm := HX.out.2
                      have hmd : decide ((nv : Int) < rm) = false := decide_eq_false hmn
                      have HX2 : Hid (oldI (vs.map (·.1)) < ((j + 1 : Nat) : Int)) := by have := HX.out.1; unfold Hid; omega
                      obtain ⟨K0, K1, K2, K3⟩ := K.out.cells
                      go_wp2_with fail
                      have hc := oldest_any _ nv cv vs w32 SV.out
                      rw [← HX.out.1] at hc
                      refine hc.mono ?_
                      clear hc
                      rintro e w33 ⟨rfl, b5⟩
                      clear K0 K1 K2 K3
                      have BL2 := Lib.hid (thn BL.out b5)
                      replace KD := Lib.hid (KD.out.next b5)
                      replace SV := Lib.hid (SV.out.next b5)
                      replace SO := Lib.hid (SO.out.next b5)
                      replace K := Lib.hid (K.out.next b5)
                      replace B := Lib.hid (thn B.out b5)
                      clear b5
                      clear BL
                      have BL := BL2
                      clear BL2
                      clear HLW HX HO
                      go_wp2
                      go_roundw
                      case rel => exact ⟨j + 1, 1, by omega, by go_num, by go_num, by decide, (fun _ => HX2.out), BL⟩
                      case measure => simp [intOf]; omega
                    · skip
                      have HX2 : Hid (lo = 1 → oldI (vs.map (·.1)) < ((j + 1 : Nat) : Int)) := fun h => by have := HLW.out h; omega
                      clear HLW HO
                      go_wp2
                      go_roundw
                      case rel => exact ⟨j + 1, lo, by omega, rfl, by go_num, hlo, HX2, BL⟩
                      case measure => simp [intOf]; omega
                · skip
                  obtain rfl : nv = j := by omega
                  clear BL HLW
                  have l1 : (lo : Int) ≤ 1 := by omega
                  go_wp2_with fail
                  have hc := awake_any v3
                  refine hc.mono ?_
                  clear hc
                  rintro e w31 ⟨rfl, b5⟩
                  replace KD := Lib.hid (KD.out.next b5)
                  replace SV := Lib.hid (SV.out.next b5)
                  replace SO := Lib.hid (SO.out.next b5)
                  replace B := Lib.hid (thn B.out b5)
                  clear b5
                  go_wp2
                  go_ret
                  exact ⟨rfl, B.out⟩
          · skip
            clear h1 h2
            obtain ⟨KD0, KD1, KD2, KD3⟩ := KD.out.cells
            as_aux_lemma =>
              go_wp2
              go_loopw [8, 14, 15, 16, 93] (fun _ s14 _ _ iv wr => ∃ (j lo : Nat), j ≤ nv ∧ s14 = .int .i64 (lo : Int) ∧ iv = .int .i64 j ∧ lo ≤ 1 ∧ Hid (lo = 1 → oldI (vs.map (·.1)) < (j : Int)) ∧ Hid (Below w6.heap.size w6 wr)) (fun _ _ _ _ iv _ => nv - (intOf iv).toNat)
              case atStart => exact ⟨0, 0, Nat.zero_le _, rfl, rfl, by decide, (fun h => by cases h), Below.refl _ _⟩
              case round =>
                obtain ⟨j, lo, hj, rfl, rfl, hlo, HLW, BL⟩ := hrel
                obtain ⟨v3, rfl⟩ : ∃ v, v = wr := ⟨_, rfl⟩
                clear KD0 KD1 KD2 KD3
                replace KD := Lib.hid (KD.out.next BL.out)
                replace SV := Lib.hid (SV.out.next BL.out)
                replace SO := Lib.hid (SO.out.next BL.out)
                replace B := Lib.hid (thn B.out BL.out)
                have i0 : (0 : Int) ≤ (j : Int) := by omega
                have l0 : (0 : Int) ≤ (lo : Int) := by omega
                by_cases hlt : j < nv
                · skip
                  as_aux_lemma =>
                    have i1 : (j : Int) < (nv : Int) := by omega
                    obtain ⟨b, off, x, hA, hb, hx, hxm, c0, c1, c2', c3'⟩ := SV.out.at_ hlt
                    subst hA
                    have HO : Hid (hasN AD x.1.1 = true ∨ ((j : Int) = oldI (vs.map (·.1)) ∧ ¬ ((vs.map (·.1)).length : Int) < rm)) := HMS.out.kept j x.1 (by rw [List.getElem?_map, hx]; rfl)
                    have FX := Lib.hid (SV.out.fl x hxm)
                    clear hx hxm hb
                    go_upto_region 16 with fail
                    clear c0 c1 c2' c3'
                    have hbl := below_lit v3 (.cells #[.int .u8 x.1.1, .int .u16 x.1.2.1, .int .u8 x.1.2.2.1, .slice x.2.1 x.2.2.1 x.2.2.2] 27)
                    replace KD := Lib.hid (KD.out.next hbl)
                    replace SV := Lib.hid (SV.out.next hbl)
                    replace SO := Lib.hid (SO.out.next hbl)
                    replace B := Lib.hid (thn B.out hbl)
                    replace BL := Lib.hid (thn BL.out hbl)
                    replace FX : Hid (Fl _ x) := Sn.next FX.out hbl
                    clear hbl
                    have K : Hid (DBlk (v3.alloc (.cells #[.int .u8 x.1.1, .int .u16 x.1.2.1, .int .u8 x.1.2.2.1, .slice x.2.1 x.2.2.1 x.2.2.2] 27)) v3.heap.size x.1 x.2) := DBlk.new v3 x.1 x.2
                    generalize v3.alloc (.cells #[.int .u8 x.1.1, .int .u16 x.1.2.1, .int .u8 x.1.2.2.1, .slice x.2.1 x.2.2.1 x.2.2.2] 27) = w31 at *
                    obtain ⟨g, hg⟩ : ∃ g, v3.heap.size = g := ⟨_, rfl⟩
                    rw [hg] at K ⊢
                    clear hg
                    obtain ⟨f9, hf9⟩ : ∃ f, Hid (findI (os.map (·.1)) x.1.1 = f) := ⟨_, rfl⟩
                    obtain ⟨K0, K1, K2, K3⟩ := K.out.cells
                    go_wp2_with fail
                    have hc := find_any Ao no co os x.1.1 w31 SO.out HFO.out ⟨self, rm, HRO.out⟩
                    rw [hf9.out] at hc
                    refine hc.mono ?_
                    clear hc
                    rintro e w32 ⟨rfl, b5⟩
                    clear K0 K1 K2 K3
                    have BL2 := Lib.hid (thn BL.out b5)
                    replace KD := Lib.hid (KD.out.next b5)
                    replace SV := Lib.hid (SV.out.next b5)
                    replace SO := Lib.hid (SO.out.next b5)
                    replace K := Lib.hid (K.out.next b5)
                    replace B := Lib.hid (thn B.out b5)
                    clear b5
                    clear BL
                    have BL := BL2
                    clear BL2
                    by_cases hq : f9 < 0
                    · skip
                      have HX : Hid ((j : Int) = oldI (vs.map (·.1)) ∧ ¬ (nv : Int) < rm) := by
                        have h1 := HO.out.resolve_left (fun e => by have := hasN_find e; rw [← MO.out, hf9.out] at this; omega)
                        rw [List.length_map, ← HLV.out] at h1
                        exact ⟨h1.1, by have := h1.2; omega⟩
                      obtain rfl : lo = 0 := by rcases (by omega : lo = 0 ∨ lo = 1) with h | h; exact h; have h1 := HLW.out h; have h2 := HX.out.1; omega
                      have hmn : ¬ (nv : Int) < rm := HX.out.2
                      have hmd : decide ((nv : Int) < rm) = false := decide_eq_false hmn
                      have HX2 : Hid (oldI (vs.map (·.1)) < ((j + 1 : Nat) : Int)) := by have := HX.out.1; unfold Hid; omega
                      obtain ⟨K0, K1, K2, K3⟩ := K.out.cells
                      go_wp2_with fail
                      have hc := oldest_any _ nv cv vs w32 SV.out
                      rw [← HX.out.1] at hc
                      refine hc.mono ?_
                      clear hc
                      rintro e w33 ⟨rfl, b5⟩
                      clear K0 K1 K2 K3
                      have BL2 := Lib.hid (thn BL.out b5)
                      replace KD := Lib.hid (KD.out.next b5)
                      replace SV := Lib.hid (SV.out.next b5)
                      replace SO := Lib.hid (SO.out.next b5)
                      replace K := Lib.hid (K.out.next b5)
                      replace B := Lib.hid (thn B.out b5)
                      clear b5
                      clear BL
                      have BL := BL2
                      clear BL2
                      clear HLW HX HO
                      go_wp2
                      go_roundw
                      case rel => exact ⟨j + 1, 1, by omega, by go_num, by go_num, by decide, (fun _ => HX2.out), BL⟩
                      case measure => simp [intOf]; omega
                    · skip
                      have HX2 : Hid (lo = 1 → oldI (vs.map (·.1)) < ((j + 1 : Nat) : Int)) := fun h => by have := HLW.out h; omega
                      clear HLW HO
                      go_wp2
                      go_roundw
                      case rel => exact ⟨j + 1, lo, by omega, rfl, by go_num, hlo, HX2, BL⟩
                      case measure => simp [intOf]; omega
                · skip
                  obtain rfl : nv = j := by omega
                  clear BL HLW
                  have l1 : (lo : Int) ≤ 1 := by omega
                  go_wp2_with fail
                  have hc := awake_any v3
                  refine hc.mono ?_
                  clear hc
                  rintro e w31 ⟨rfl, b5⟩
                  replace KD := Lib.hid (KD.out.next b5)
                  replace SV := Lib.hid (SV.out.next b5)
                  replace SO := Lib.hid (SO.out.next b5)
                  replace B := Lib.hid (thn B.out b5)
                  clear b5
                  go_wp2
                  go_ret
                  exact ⟨rfl, B.out⟩
end Go.Proofs.Ytdkchiodepdclaa
