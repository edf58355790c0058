/- Layer 10: CyclonTells. -/
import Derived.Test.YtgbnnllbpidlfaaYw
import Derived.Deep.Cut
namespace Go.Proofs.Ytgbnnllbpidlfaa
open Go.RowKit
set_option linter.unusedVariables false
theorem beqlB (z : Bool) (w : World) : (binOp .eql 4 (.bool z) (.bool z)).run Try.prog w = .ok (.bool true) w := by cases z <;> rfl
abbrev meT (self age : Int) : Dsc := (self, 1, age, [(1, 2)])
theorem fl_span (w : World) : Sp (w.alloc (.cells #[.int .i32 1, .int .i32 2] 30)) (w.alloc (.cells #[.int .i32 1, .int .i32 2] 30)).heap.size (some ⟨w.heap.size, 0, none⟩) 1 1 [(1, 2)] :=
  (Sn.lit w #[.int .i32 1, .int .i32 2] 30 (0, 0) 2 1 rfl (by decide)).more (by show _ ≤ (w.heap.push _).size; simp)
set_option maxRecDepth 100000 in
set_option maxHeartbeats 40000000 in
theorem tells_walk (A : Option Addr) (n c : Nat) (xs : List (Dsc × Hd)) (Ag : Option Addr) (ng cg : Nat) (gs : List (Dsc × Hd)) (As : Option Addr) (ns cs : Nat) (ss : List (Dsc × Hd)) (self not room many : Int) (Ad : Option Addr) (nd cd : Nat) (rs : List Int) (w : World) (h : Sds w A n c xs) (hR : ∀ x ∈ xs, dscR x.1) (hg : Sds w Ag ng cg gs) (hRg : ∀ x ∈ gs, dscR x.1) (hs : Sds w As ns cs ss) (hRs : ∀ x ∈ ss, dscR x.1) (hse : byt self) (hnt : byt not) (hrm : byt room) (hmn : many ≤ 9223372036854775807) (hd : Su w Ad nd cd rs) (hr : drawR rs) :
    Calls Try.prog 3 #[.slice A n c, .slice Ag ng cg, .slice As ns cs, .int .u8 self, .int .u8 not, .int .u8 room, .int .i64 many, .slice Ad nd cd] w fun e w' => e = .returned (.bool true) ∧ Below w.heap.size w w' := by
  have HL := Lib.hid h.len
  have HLg := Lib.hid hg.len
  have HLs := Lib.hid hs.len
  have HR := Lib.hid hR
  have HRg := Lib.hid hRg
  have HRs := Lib.hid hRs
  have HS := Lib.hid h
  have HG := Lib.hid hg
  have HT := Lib.hid hs
  have HD := Lib.hid hd
  have HDR := Lib.hid hr
  have HSF := Lib.hid hse
  have HNT := Lib.hid hnt
  have HMN := Lib.hid hmn
  have B := Lib.hid (Below.refl w.heap.size w)
  obtain ⟨f1, HF1⟩ : ∃ f, Hid (fewB (xs.map (·.1)) = f) := ⟨_, rfl⟩
  obtain ⟨f2, HF2⟩ : ∃ f, Hid (fewB (gs.map (·.1)) = f) := ⟨_, rfl⟩
  obtain ⟨f3, HF3⟩ : ∃ f, Hid (fewB (ss.map (·.1)) = f) := ⟨_, rfl⟩
  obtain ⟨rm, hrm1⟩ : ∃ r, Int.tmod room 21 = r := ⟨_, rfl⟩
  have rm0 : 0 ≤ rm := by rw [← hrm1]; exact Int.tmod_nonneg _ hrm.1
  have rm1 : rm ≤ 20 := by rw [← hrm1]; have := Int.tmod_lt_of_pos room (show (0 : Int) < 21 by decide); omega
  obtain ⟨hrmL, hrmU⟩ := hrm
  clear h hR hg hRg hs hRs hse hnt hmn hd hr
  go_enter Try.func3, Try.ntmps3
  go_wp2_with fail
  have hc := few_any A n c xs w HS.out
  rw [HF1.out] at hc
  refine hc.mono ?_
  clear hc
  rintro e w1 ⟨rfl, b5⟩
  replace B := Lib.hid (thn B.out b5)
  clear b5
  cases f1
  · skip
    go_wp2_with fail
    have hc := awake_any w1
    refine hc.mono ?_
    clear hc
    rintro e w2 ⟨rfl, b5⟩
    replace B := Lib.hid (thn B.out b5)
    clear b5
    go_wp2
    go_ret
    exact ⟨rfl, B.out⟩
  · skip
    go_wp2_with fail
    have hc := few_any Ag ng cg gs w1 (HG.out.next B.out)
    rw [HF2.out] at hc
    refine hc.mono ?_
    clear hc
    rintro e w2 ⟨rfl, b5⟩
    replace B := Lib.hid (thn B.out b5)
    clear b5
    cases f2
    · skip
      go_wp2_with fail
      have hc := awake_any w2
      refine hc.mono ?_
      clear hc
      rintro e w3 ⟨rfl, b5⟩
      replace B := Lib.hid (thn B.out b5)
      clear b5
      go_wp2
      go_ret
      exact ⟨rfl, B.out⟩
    · skip
      go_wp2_with fail
      have hc := few_any As ns cs ss w2 (HT.out.next B.out)
      rw [HF3.out] at hc
      refine hc.mono ?_
      clear hc
      rintro e w3 ⟨rfl, b5⟩
      replace B := Lib.hid (thn B.out b5)
      clear b5
      cases f3
      · skip
        go_wp2_with fail
        have hc := awake_any w3
        refine hc.mono ?_
        clear hc
        rintro e w4 ⟨rfl, b5⟩
        replace B := Lib.hid (thn B.out b5)
        clear b5
        go_wp2
        go_ret
        exact ⟨rfl, B.out⟩
      · skip
        by_cases hnd : (30 : Int) < (nd : Int)
        · skip
          go_wp2_with fail
          have hc := awake_any w3
          refine hc.mono ?_
          clear hc
          rintro e w4 ⟨rfl, b5⟩
          replace B := Lib.hid (thn B.out b5)
          clear b5
          go_wp2
          go_ret
          exact ⟨rfl, B.out⟩
        · skip
          have HFX := Lib.hid (few_fit HF1.out HL.out HR.out)
          have HFG := Lib.hid (few_fit HF2.out HLg.out HRg.out)
          have HFS := Lib.hid (few_fit HF3.out HLs.out HRs.out)
          go_wp2_with fail
          have hc := view_any A n c xs self rm w3 (HS.out.next B.out) HR.out rm0
          refine hc.mono ?_
          clear hc
          rintro e w4 ⟨Av, nv, cv, vs, rfl, hv, sv, b5⟩
          have SV := Lib.hid (sv.sds)
          have HV := Lib.hid (hv)
          replace B := Lib.hid (thn B.out b5)
          clear b5
          clear sv hv
          have HFV : Hid (Fit nv vs) := view_fit HV.out HFX.out (by omega) SV.out.len
          have HRV : Hid (RightD (vs.map (·.1)) self rm) := HV.out.right
          go_wp2_with fail
          have hc := anew_any Av nv cv vs w4 SV.out (by have := HFV.out.len; omega) (fun x hx => by have := (HFV.out.all x hx).2; omega)
          refine hc.mono ?_
          clear hc
          rintro e w5 ⟨A1, n1, c1, z1, rfl, m1, d1, b5⟩
          have S1 := Lib.hid (d1.sds)
          have M1 := Lib.hid (m1)
          replace SV := Lib.hid (SV.out.next b5)
          replace B := Lib.hid (thn B.out b5)
          clear b5
          clear d1 m1
          go_wp2_with fail
          have hc := anew_any Ag ng cg gs w5 (HG.out.next B.out) (by have := HFG.out.len; omega) (fun x hx => by have := (HFG.out.all x hx).2; omega)
          refine hc.mono ?_
          clear hc
          rintro e w6 ⟨A2, n2, c2, z2, rfl, m2, d2, b5⟩
          have S2 := Lib.hid (d2.sds)
          have M2 := Lib.hid (m2)
          replace SV := Lib.hid (SV.out.next b5)
          replace S1 := Lib.hid (S1.out.next b5)
          replace B := Lib.hid (thn B.out b5)
          clear b5
          clear d2 m2
          go_wp2_with fail
          have hc := anew_any As ns cs ss w6 (HT.out.next B.out) (by have := HFS.out.len; omega) (fun x hx => by have := (HFS.out.all x hx).2; omega)
          refine hc.mono ?_
          clear hc
          rintro e w7 ⟨A3, n3, c3, z3, rfl, m3, d3, b5⟩
          have S3 := Lib.hid (d3.sds)
          have M3 := Lib.hid (m3)
          replace SV := Lib.hid (SV.out.next b5)
          replace S1 := Lib.hid (S1.out.next b5)
          replace S2 := Lib.hid (S2.out.next b5)
          replace B := Lib.hid (thn B.out b5)
          clear b5
          clear d3 m3
          go_upto_region 7 with fail
          have hb1 := below_lit w7 (.cells #[.int .i32 1, .int .i32 2] 30)
          have hfl := fl_span w7
          have hsz : (w7.alloc (.cells #[.int .i32 1, .int .i32 2] 30)).heap.size = w7.heap.size + 1 := by show (w7.heap.push _).size = _; simp
          have hb2 := below_lit (w7.alloc (.cells #[.int .i32 1, .int .i32 2] 30)) (.cells #[.int .u8 (meT self not).1, .int .u16 (meT self not).2.1, .int .u8 (meT self not).2.2.1, .slice ((some ⟨w7.heap.size, 0, none⟩, 1, 1) : Hd).1 ((some ⟨w7.heap.size, 0, none⟩, 1, 1) : Hd).2.1 ((some ⟨w7.heap.size, 0, none⟩, 1, 1) : Hd).2.2] 34)
          have Q := Lib.hid (DBlk.new (w7.alloc (.cells #[.int .i32 1, .int .i32 2] 30)) (meT self not) (some ⟨w7.heap.size, 0, none⟩, 1, 1))
          have FM : Hid (Fl ((w7.alloc (.cells #[.int .i32 1, .int .i32 2] 30)).alloc (.cells #[.int .u8 (meT self not).1, .int .u16 (meT self not).2.1, .int .u8 (meT self not).2.2.1, .slice ((some ⟨w7.heap.size, 0, none⟩, 1, 1) : Hd).1 ((some ⟨w7.heap.size, 0, none⟩, 1, 1) : Hd).2.1 ((some ⟨w7.heap.size, 0, none⟩, 1, 1) : Hd).2.2] 34)) (meT self not, (some ⟨w7.heap.size, 0, none⟩, 1, 1))) := Sn.next hfl hb2
          have b5 := thn hb1 hb2
          replace SV := Lib.hid (SV.out.next b5)
          replace S1 := Lib.hid (S1.out.next b5)
          replace S2 := Lib.hid (S2.out.next b5)
          replace S3 := Lib.hid (S3.out.next b5)
          replace B := Lib.hid (thn B.out b5)
          clear b5 hb1 hb2 hfl
          rw [hsz] at Q
          clear hsz
          dsimp only [meT] at *
          generalize (w7.alloc _).alloc _ = w8 at *
          obtain ⟨q, hq⟩ : ∃ q, w7.heap.size + 1 = q := ⟨_, rfl⟩
          obtain ⟨p, hp⟩ : ∃ p, w7.heap.size = p := ⟨_, rfl⟩
          rw [hq] at Q ⊢
          rw [hp] at Q FM ⊢
          clear hq hp
          have FMB : Hid (Below w8.heap.size w8 w8) := Below.refl _ _
          have F1M : Hid (Fit1 (self, 1, not, [(1, 2)])) := ⟨⟨HSF.out, ⟨by show (0 : Int) ≤ 1; decide, by show (1 : Int) ≤ 65535; decide⟩, HNT.out⟩, by show 1 ≤ 1000; decide⟩
          obtain ⟨⟨ra, rl, rp⟩, hR⟩ : ∃ r, askD (vs.map (·.1)) (self, 1, not, [(1, 2)]) many rs = r := ⟨_, rfl⟩
          have HRA := Lib.hid hR
          clear hR
          have hbe := beqlB rp
          obtain ⟨Q0, Q1, Q2, Q3⟩ := Q.out.cells
          go_wp2_with fail
          have hc := ask_any Av nv cv vs (self, 1, not, [(1, 2)]) (some ⟨p, 0, none⟩, 1, 1) many Ad nd cd rs w8 SV.out HFV.out (Sn.next FM.out FMB.out) F1M.out HMN.out (Su.next HD.out B.out) HDR.out
          rw [HRA.out] at hc
          refine hc.mono ?_
          clear hc
          rintro e w9 ⟨Aa, na, ca, za, rfl, ma, da, b5⟩
          clear Q0 Q1 Q2 Q3
          have FMC := Lib.hid (thn FMB.out b5)
          have Sa := Lib.hid (da.sds)
          have Ma := Lib.hid (ma)
          replace SV := Lib.hid (SV.out.next b5)
          replace S1 := Lib.hid (S1.out.next b5)
          replace S2 := Lib.hid (S2.out.next b5)
          replace S3 := Lib.hid (S3.out.next b5)
          replace Q := Lib.hid (Q.out.next b5)
          replace B := Lib.hid (thn B.out b5)
          clear b5
          clear FMB
          have FMB := FMC
          clear FMC
          clear da ma
          obtain ⟨Q0, Q1, Q2, Q3⟩ := Q.out.cells
          go_wp2_with fail
          have hc := refask_any Av nv cv vs (self, 1, not, [(1, 2)]) (some ⟨p, 0, none⟩, 1, 1) many Ad nd cd rs w9 SV.out HFV.out HRV.out.2.1 (Sn.next FM.out FMB.out) HMN.out (Su.next HD.out B.out) HDR.out
          rw [HRA.out] at hc
          refine hc.mono ?_
          clear hc
          rintro e w10 ⟨Ab, nb, cb, zb, rfl, mb, sb, b5⟩
          clear Q0 Q1 Q2 Q3
          have FMC := Lib.hid (thn FMB.out b5)
          have Sb := Lib.hid (sb)
          have Mb := Lib.hid (mb)
          replace SV := Lib.hid (SV.out.next b5)
          replace S1 := Lib.hid (S1.out.next b5)
          replace S2 := Lib.hid (S2.out.next b5)
          replace S3 := Lib.hid (S3.out.next b5)
          replace Q := Lib.hid (Q.out.next b5)
          replace Sa := Lib.hid (Sa.out.next b5)
          replace B := Lib.hid (thn B.out b5)
          clear b5
          clear FMB
          have FMB := FMC
          clear FMC
          clear sb mb
          clear Q FMB FM F1M
          go_wp2_with fail
          have hc := descs_any Aa na ca za Ab nb cb zb w10 Sa.out Sb.out
          rw [show decide (za.map (·.1) = zb.map (·.1)) = true from decide_eq_true (Ma.out.trans Mb.out.symm)] at hc
          refine hc.mono ?_
          clear hc
          rintro e w11 ⟨rfl, b5⟩
          replace SV := Lib.hid (SV.out.next b5)
          replace S1 := Lib.hid (S1.out.next b5)
          replace S2 := Lib.hid (S2.out.next b5)
          replace S3 := Lib.hid (S3.out.next b5)
          replace Sa := Lib.hid (Sa.out.next b5)
          replace Sb := Lib.hid (Sb.out.next b5)
          replace B := Lib.hid (thn B.out b5)
          clear b5
          clear Sa Sb Ma Mb
          go_wp2_with fail
          have hc := pick_any Av nv cv vs many not Ad nd cd rs w11 SV.out HFV.out (Su.next HD.out B.out) HDR.out
          refine hc.mono ?_
          clear hc
          rintro e w12 ⟨Aa, na, ca, za, rfl, ma, da, b5⟩
          have Sa := Lib.hid (da.sds)
          have Ma := Lib.hid (ma)
          replace SV := Lib.hid (SV.out.next b5)
          replace S1 := Lib.hid (S1.out.next b5)
          replace S2 := Lib.hid (S2.out.next b5)
          replace S3 := Lib.hid (S3.out.next b5)
          replace B := Lib.hid (thn B.out b5)
          clear b5
          clear da ma
          go_wp2_with fail
          have hc := refpick_any Av nv cv vs many not Ad nd cd rs w12 SV.out (by have := HFV.out.len; omega) HRV.out.2.1 (Su.next HD.out B.out) HDR.out
          refine hc.mono ?_
          clear hc
          rintro e w13 ⟨Ab, nb, cb, zb, rfl, mb, sb, b5⟩
          have Sb := Lib.hid (sb)
          have Mb := Lib.hid (mb)
          replace SV := Lib.hid (SV.out.next b5)
          replace S1 := Lib.hid (S1.out.next b5)
          replace S2 := Lib.hid (S2.out.next b5)
          replace S3 := Lib.hid (S3.out.next b5)
          replace Sa := Lib.hid (Sa.out.next b5)
          replace B := Lib.hid (thn B.out b5)
          clear b5
          clear sb mb
          go_wp2_with fail
          have hc := descs_any Aa na ca za Ab nb cb zb w13 Sa.out Sb.out
          rw [show decide (za.map (·.1) = zb.map (·.1)) = true from decide_eq_true (Ma.out.trans Mb.out.symm)] at hc
          refine hc.mono ?_
          clear hc
          rintro e w14 ⟨rfl, b5⟩
          replace SV := Lib.hid (SV.out.next b5)
          replace S1 := Lib.hid (S1.out.next b5)
          replace S2 := Lib.hid (S2.out.next b5)
          replace S3 := Lib.hid (S3.out.next b5)
          replace Sa := Lib.hid (Sa.out.next b5)
          replace Sb := Lib.hid (Sb.out.next b5)
          replace B := Lib.hid (thn B.out b5)
          clear b5
          clear Sa Sb Ma Mb
          go_wp2_with fail
          have hc := merge_any Av nv cv vs Ag ng cg gs As ns cs ss self rm w14 SV.out HFV.out (HG.out.next B.out) HFG.out (HT.out.next B.out) HFS.out (by omega) HRV.out
          refine hc.mono ?_
          clear hc
          rintro e w15 ⟨Aa, na, ca, za, rfl, ma, da, b5⟩
          have Sa := Lib.hid (da.sds)
          have Ma := Lib.hid (ma)
          replace SV := Lib.hid (SV.out.next b5)
          replace S1 := Lib.hid (S1.out.next b5)
          replace S2 := Lib.hid (S2.out.next b5)
          replace S3 := Lib.hid (S3.out.next b5)
          replace B := Lib.hid (thn B.out b5)
          clear b5
          clear da ma
          go_wp2_with fail
          have hc := refmerge_any Av nv cv vs Ag ng cg gs As ns cs ss self rm w15 SV.out HFV.out (HG.out.next B.out) HFG.out (HT.out.next B.out) HFS.out (by omega) HRV.out
          refine hc.mono ?_
          clear hc
          rintro e w16 ⟨Ab, nb, cb, zb, rfl, mb, db, b5⟩
          have Sb := Lib.hid (db)
          have Mb := Lib.hid (mb)
          replace SV := Lib.hid (SV.out.next b5)
          replace S1 := Lib.hid (S1.out.next b5)
          replace S2 := Lib.hid (S2.out.next b5)
          replace S3 := Lib.hid (S3.out.next b5)
          replace Sa := Lib.hid (Sa.out.next b5)
          replace B := Lib.hid (thn B.out b5)
          clear b5
          clear db mb
          go_wp2_with fail
          have hc := descs_any Aa na ca za Ab nb cb zb w16 Sa.out Sb.out
          rw [show decide (za.map (·.1) = zb.map (·.1)) = true from decide_eq_true (Ma.out.trans Mb.out.symm)] at hc
          refine hc.mono ?_
          clear hc
          rintro e w17 ⟨rfl, b5⟩
          replace SV := Lib.hid (SV.out.next b5)
          replace S1 := Lib.hid (S1.out.next b5)
          replace S2 := Lib.hid (S2.out.next b5)
          replace S3 := Lib.hid (S3.out.next b5)
          replace Sa := Lib.hid (Sa.out.next b5)
          replace Sb := Lib.hid (Sb.out.next b5)
          replace B := Lib.hid (thn B.out b5)
          clear b5
          clear Sa Sb Ma Mb
          go_wp2_with fail
          have hc := descs_any Av nv cv vs A1 n1 c1 z1 w17 SV.out S1.out
          rw [show decide (vs.map (·.1) = z1.map (·.1)) = true from decide_eq_true M1.out.symm] at hc
          refine hc.mono ?_
          clear hc
          rintro e w18 ⟨rfl, b5⟩
          replace SV := Lib.hid (SV.out.next b5)
          replace S1 := Lib.hid (S1.out.next b5)
          replace S2 := Lib.hid (S2.out.next b5)
          replace S3 := Lib.hid (S3.out.next b5)
          replace B := Lib.hid (thn B.out b5)
          clear b5
          go_wp2_with fail
          have hc := descs_any Ag ng cg gs A2 n2 c2 z2 w18 (HG.out.next B.out) S2.out
          rw [show decide (gs.map (·.1) = z2.map (·.1)) = true from decide_eq_true M2.out.symm] at hc
          refine hc.mono ?_
          clear hc
          rintro e w19 ⟨rfl, b5⟩
          replace SV := Lib.hid (SV.out.next b5)
          replace S1 := Lib.hid (S1.out.next b5)
          replace S2 := Lib.hid (S2.out.next b5)
          replace S3 := Lib.hid (S3.out.next b5)
          replace B := Lib.hid (thn B.out b5)
          clear b5
          go_wp2_with fail
          have hc := descs_any As ns cs ss A3 n3 c3 z3 w19 (HT.out.next B.out) S3.out
          rw [show decide (ss.map (·.1) = z3.map (·.1)) = true from decide_eq_true M3.out.symm] at hc
          refine hc.mono ?_
          clear hc
          rintro e w20 ⟨rfl, b5⟩
          replace SV := Lib.hid (SV.out.next b5)
          replace S1 := Lib.hid (S1.out.next b5)
          replace S2 := Lib.hid (S2.out.next b5)
          replace S3 := Lib.hid (S3.out.next b5)
          replace B := Lib.hid (thn B.out b5)
          clear b5
          go_wp2_with fail
          have hc := awake_any w20
          refine hc.mono ?_
          clear hc
          rintro e w21 ⟨rfl, b5⟩
          replace SV := Lib.hid (SV.out.next b5)
          replace S1 := Lib.hid (S1.out.next b5)
          replace S2 := Lib.hid (S2.out.next b5)
          replace S3 := Lib.hid (S3.out.next b5)
          replace B := Lib.hid (thn B.out b5)
          clear b5
          go_wp2
          go_ret
          exact ⟨rfl, B.out⟩
end Go.Proofs.Ytgbnnllbpidlfaa
