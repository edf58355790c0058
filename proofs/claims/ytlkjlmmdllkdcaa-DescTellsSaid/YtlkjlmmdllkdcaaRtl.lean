/- Layer 9: DescTells. -/
import Derived.Test.YtlkjlmmdllkdcaaRsm
namespace Go.Proofs.Ytlkjlmmdllkdcaa
open Go.RowKit
set_option linter.unusedVariables false
theorem bneq (z : Bool) (w : World) : (binOp .neq 4 (.bool z) (.bool z)).run Try.prog w = .ok (.bool false) w := by cases z <;> rfl
theorem beql (z : Bool) (w : World) : (binOp .eql 4 (.bool z) (.bool z)).run Try.prog w = .ok (.bool true) w := by cases z <;> rfl
set_option maxRecDepth 100000 in
set_option maxHeartbeats 40000000 in
theorem tells_walk (HD : DescOK) (A : Option Addr) (n c : Nat) (xs : List (Dsc × Hd)) (d : Dsc) (hd : Hd) (self node room : Int) (w : World) (h : Sds w A n c xs) (fd : Fl w (d, hd)) (hR : ∀ x ∈ xs, dscR x.1) (rd : dscR d) (hs : byt self) (hnd : byt node) (hrm : byt room) : Calls Try.prog 3 #[.slice A n c, (.agg #[.int .u8 d.1, .int .u16 d.2.1, .int .u8 d.2.2.1, .slice hd.1 hd.2.1 hd.2.2]), .int .u8 self, .int .u8 node, .int .u8 room] w fun e w' => e = .returned (.bool true) ∧ Below w.heap.size w w' := by
  have HDD := Lib.hid HD
  have HL := Lib.hid h.len
  have HR := Lib.hid hR
  have HRD := Lib.hid rd
  have HSF := Lib.hid hs
  have HND := Lib.hid hnd
  have HS := Lib.hid h
  have FD : Hid (Fl w (d, hd)) := fd
  have HLD : Hid (hd.2.1 = d.2.2.2.length) := sp_len fd
  have hm := h.max
  have hc := h.cap
  unfold maxLen at hm
  have B := Lib.hid (below_lit w (.cells #[.int .u8 d.1, .int .u16 d.2.1, .int .u8 d.2.2.1, .slice hd.1 hd.2.1 hd.2.2] 27))
  have K6 : Hid (DBlk (w.alloc (.cells #[.int .u8 d.1, .int .u16 d.2.1, .int .u8 d.2.2.1, .slice hd.1 hd.2.1 hd.2.2] 27)) w.heap.size d hd) := DBlk.new w d hd
  obtain ⟨f, HFW⟩ : ∃ f, Hid (fewB (xs.map (·.1)) = f) := ⟨_, rfl⟩
  obtain ⟨rm, hrm1⟩ : ∃ r, Int.tmod room 21 = r := ⟨_, rfl⟩
  have rm0 : 0 ≤ rm := by rw [← hrm1]; exact Int.tmod_nonneg _ hrm.1
  have rm1 : rm ≤ 20 := by rw [← hrm1]; have := Int.tmod_lt_of_pos room (show (0 : Int) < 21 by decide); omega
  clear h fd hR rd hs hnd hrm HD
  go_enter Try.func3, Try.ntmps3
  go_upto_region 1 with fail
  generalize w.alloc (.cells #[.int .u8 d.1, .int .u16 d.2.1, .int .u8 d.2.2.1, .slice hd.1 hd.2.1 hd.2.2] 27) = w1 at *
  obtain ⟨g6, hg⟩ : ∃ g, w.heap.size = g := ⟨_, rfl⟩
  rw [hg] at K6 ⊢
  clear hg
  obtain ⟨x0, x1, x2, x3⟩ := K6.out.cells
  go_wp2_with fail
  have hc := few_any A n c xs w1 (HS.out.next B.out)
  rw [HFW.out] at hc
  refine hc.mono ?_
  clear hc
  rintro e w2 ⟨rfl, b5⟩
  clear x0 x1 x2 x3
  replace K6 := Lib.hid (K6.out.next b5)
  replace B := Lib.hid (thn B.out b5)
  clear b5
  cases f
  · skip
    obtain ⟨x0, x1, x2, x3⟩ := K6.out.cells
    go_wp2_with fail
    refine (awake_any HDD.out w2).mono ?_
    rintro e w3 ⟨rfl, b5⟩
    replace B := Lib.hid (thn B.out b5)
    clear b5
    go_wp2
    go_ret
    exact ⟨rfl, B.out⟩
  · skip
    have HFX := Lib.hid (few_fit HFW.out HL.out HR.out)
    by_cases l8 : (8 : Int) < (hd.2.1 : Int)
    · skip
      obtain ⟨x0, x1, x2, x3⟩ := K6.out.cells
      go_wp2_with fail
      refine (awake_any HDD.out w2).mono ?_
      rintro e w3 ⟨rfl, b5⟩
      replace B := Lib.hid (thn B.out b5)
      clear b5
      go_wp2
      go_ret
      exact ⟨rfl, B.out⟩
    · skip
      have H8 : Hid (d.2.2.2.length ≤ 8) := by have := HLD.out; unfold Hid; omega
      have F1D : Hid (Fit1 d) := ⟨HRD.out, by have := H8.out; omega⟩
      obtain ⟨z, HZ⟩ : ∃ z, Hid (decide (RightD (xs.map (·.1)) self rm) = z) := ⟨_, rfl⟩
      have hnb := bneq z
      obtain ⟨x0, x1, x2, x3⟩ := K6.out.cells
      go_wp2_with fail
      have hc := HDD.out.right A n c xs self rm w2 (HS.out.next B.out) HFX.out HSF.out (by omega) (by omega)
      rw [HZ.out] at hc
      refine hc.mono ?_
      clear hc
      rintro e w3 ⟨rfl, b5⟩
      clear x0 x1 x2 x3
      replace K6 := Lib.hid (K6.out.next b5)
      replace B := Lib.hid (thn B.out b5)
      clear b5
      obtain ⟨x0, x1, x2, x3⟩ := K6.out.cells
      go_wp2_with fail
      have hc := refright_any A n c xs self rm w3 (HS.out.next B.out)
      rw [HZ.out] at hc
      refine hc.mono ?_
      clear hc
      rintro e w4 ⟨rfl, b5⟩
      clear x0 x1 x2 x3
      replace K6 := Lib.hid (K6.out.next b5)
      replace B := Lib.hid (thn B.out b5)
      clear b5
      obtain ⟨x0, x1, x2, x3⟩ := K6.out.cells
      go_wp2_with fail
      have hc := HDD.out.copy A n c xs w4 (HS.out.next B.out) HFX.out
      refine hc.mono ?_
      clear hc
      rintro e w5 ⟨Ac, nc, cc, zc, rfl, mc, dc, b5⟩
      clear x0 x1 x2 x3
      have SC := Lib.hid dc.sds
      have MC := Lib.hid mc
      clear dc mc
      replace K6 := Lib.hid (K6.out.next b5)
      replace B := Lib.hid (thn B.out b5)
      clear b5
      obtain ⟨x0, x1, x2, x3⟩ := K6.out.cells
      go_wp2_with fail
      have hc := descs_any Ac nc cc zc A n c xs w5 SC.out (HS.out.next B.out)
      rw [show decide (zc.map (·.1) = xs.map (·.1)) = true from decide_eq_true MC.out] at hc
      refine hc.mono ?_
      clear hc
      rintro e w6 ⟨rfl, b5⟩
      clear x0 x1 x2 x3
      replace K6 := Lib.hid (K6.out.next b5)
      replace SC := Lib.hid (SC.out.next b5)
      replace B := Lib.hid (thn B.out b5)
      clear b5
      clear SC MC
      obtain ⟨x0, x1, x2, x3⟩ := K6.out.cells
      go_wp2_with fail
      have hc := HDD.out.right A n c xs self (-1) w6 (HS.out.next B.out) HFX.out HSF.out (by decide) (by decide)
      rw [show decide (RightD (xs.map (·.1)) self (-1)) = false from decide_eq_false fun h => by have := h.2.2.1; omega] at hc
      refine hc.mono ?_
      clear hc
      rintro e w7 ⟨rfl, b5⟩
      clear x0 x1 x2 x3
      replace K6 := Lib.hid (K6.out.next b5)
      replace B := Lib.hid (thn B.out b5)
      clear b5
      obtain ⟨x0, x1, x2, x3⟩ := K6.out.cells
      go_wp2_with fail
      have hc := sames_any HDD.out d hd w7 (FD.out.next B.out) HRD.out H8.out
      refine hc.mono ?_
      clear hc
      rintro e w8 ⟨rfl, b5⟩
      clear x0 x1 x2 x3
      replace K6 := Lib.hid (K6.out.next b5)
      replace B := Lib.hid (thn B.out b5)
      clear b5
      obtain ⟨x0, x1, x2, x3⟩ := K6.out.cells
      go_wp2_with fail
      have hc := view_any A n c xs self rm w8 (HS.out.next B.out) HR.out rm0
      refine hc.mono ?_
      clear hc
      rintro e w9 ⟨Av, nv, cv, vs, rfl, hv, sv, b5⟩
      clear x0 x1 x2 x3
      have SV := Lib.hid sv.sds
      have HV := Lib.hid hv
      clear sv hv
      replace K6 := Lib.hid (K6.out.next b5)
      replace B := Lib.hid (thn B.out b5)
      clear b5
      have HFV : Hid (Fit nv vs) := view_fit HV.out HFX.out (by omega) SV.out.len
      have HRV : Hid (RightD (vs.map (·.1)) self rm) := HV.out.right
      obtain ⟨x0, x1, x2, x3⟩ := K6.out.cells
      go_wp2_with fail
      have hc := anew_any Av nv cv vs w9 SV.out (by have := HFV.out.len; omega) (fun x hx => by have := (HFV.out.all x hx).2; omega)
      refine hc.mono ?_
      clear hc
      rintro e w10 ⟨Aw, nw, cw, ws, rfl, mw, dw, b5⟩
      clear x0 x1 x2 x3
      have SW := Lib.hid dw.sds
      have MW := Lib.hid mw
      clear dw mw
      replace K6 := Lib.hid (K6.out.next b5)
      replace SV := Lib.hid (SV.out.next b5)
      replace B := Lib.hid (thn B.out b5)
      clear b5
      obtain ⟨x0, x1, x2, x3⟩ := K6.out.cells
      go_wp2
      clear x0 x1 x2 x3
      go_loopw [15, 66] (fun _ iv wr => ∃ j : Nat, j ≤ n ∧ iv = .int .i64 j ∧ Hid (Below w10.heap.size w10 wr)) (fun _ iv _ => n - (intOf iv).toNat)
      case atStart => exact ⟨0, Nat.zero_le _, rfl, Below.refl _ _⟩
      case round =>
        obtain ⟨j, hj, rfl, BL⟩ := hrel
        replace K6 := Lib.hid (K6.out.next BL.out)
        replace SV := Lib.hid (SV.out.next BL.out)
        replace SW := Lib.hid (SW.out.next BL.out)
        replace B := Lib.hid (thn B.out BL.out)
        have i0 : (0 : Int) ≤ (j : Int) := by omega
        by_cases hlt : j < n
        · as_aux_lemma =>
            have i1 : (j : Int) < (n : Int) := by omega
            obtain ⟨b, off, x, rfl, hb, hx, hxm, c0, c1, c2', c3'⟩ := (HS.out.next B.out).at_ hlt
            have F1X : Hid (Fit1 x.1) := HFX.out.all x hxm
            have FLX : Hid (Fl wr x) := (HS.out.next B.out).fl x hxm
            clear hx hxm hb
            obtain ⟨x0, x1, x2, x3⟩ := K6.out.cells
            go_upto_region 13 with fail
            clear x0 x1 x2 x3
            clear c0 c1 c2' c3'
            have hbl := below_lit wr (.cells #[.int .u8 x.1.1, .int .u16 x.1.2.1, .int .u8 x.1.2.2.1, .slice x.2.1 x.2.2.1 x.2.2.2] 27)
            replace K6 := Lib.hid (K6.out.next hbl)
            replace SV := Lib.hid (SV.out.next hbl)
            replace SW := Lib.hid (SW.out.next hbl)
            replace B := Lib.hid (thn B.out hbl)
            replace BL := Lib.hid (thn BL.out hbl)
            replace FLX : Hid (Fl _ x) := Sn.next FLX.out hbl
            clear hbl
            have K15 : Hid (DBlk (wr.alloc (.cells #[.int .u8 x.1.1, .int .u16 x.1.2.1, .int .u8 x.1.2.2.1, .slice x.2.1 x.2.2.1 x.2.2.2] 27)) wr.heap.size x.1 x.2) := DBlk.new wr x.1 x.2
            generalize wr.alloc (.cells #[.int .u8 x.1.1, .int .u16 x.1.2.1, .int .u8 x.1.2.2.1, .slice x.2.1 x.2.2.1 x.2.2.2] 27) = w21 at *
            obtain ⟨g15, hg⟩ : ∃ g, wr.heap.size = g := ⟨_, rfl⟩
            rw [hg] at K15 ⊢
            clear hg
            obtain ⟨y, HY⟩ : ∃ y, Hid (decide (x.1 = d) = y) := ⟨_, rfl⟩
            have hny := bneq y
            clear hnb
            have BB := Lib.hid (Below.refl w21.heap.size w21)
            refine wp_region_typed 6 [(70, .val (.agg #[.int .u8 x.1.1, .int .u16 x.1.2.1, .int .u8 x.1.2.2.1, .slice x.2.1 x.2.2.1 x.2.2.2])), (71, .val (.agg #[.int .u8 d.1, .int .u16 d.2.1, .int .u8 d.2.2.1, .slice hd.1 hd.2.1 hd.2.2])), (72, .val (.bool y)), (73, .val (.agg #[.int .u8 x.1.1, .int .u16 x.1.2.1, .int .u8 x.1.2.2.1, .slice x.2.1 x.2.2.1 x.2.2.2])), (74, .val (.agg #[.int .u8 d.1, .int .u16 d.2.1, .int .u8 d.2.2.1, .slice hd.1 hd.2.1 hd.2.2])), (75, .val (.bool y))]
              [[], [], [70, 71], [], [], [73, 74]] (by kernel_rfl) (by kernel_rfl) ?_ ?_
            rotate_left
            · intro v22 hb
              simp only [List.take_succ_cons, List.take_zero, List.drop_succ_cons, List.drop_zero]
              refine over_ds (ds := [70, 71, 72, 73, 74, 75]) (by kernel_rfl) ?_
              refine over_some (ds1 := [70, 71, 72, 73, 74, 75]) (ds2 := []) [(.agg #[.int .u8 x.1.1, .int .u16 x.1.2.1, .int .u8 x.1.2.2.1, .slice x.2.1 x.2.2.1 x.2.2.2]), (.agg #[.int .u8 d.1, .int .u16 d.2.1, .int .u8 d.2.2.1, .slice hd.1 hd.2.1 hd.2.2]), (.bool y), (.agg #[.int .u8 x.1.1, .int .u16 x.1.2.1, .int .u8 x.1.2.2.1, .slice x.2.1 x.2.2.1 x.2.2.2]), (.agg #[.int .u8 d.1, .int .u16 d.2.1, .int .u8 d.2.2.1, .slice hd.1 hd.2.1 hd.2.2]), (.bool y)] (by kernel_rfl) ?_
              refine over_nil ?_
              simp only [putAll, put_lit, List.set_cons_succ, List.set_cons_zero]
              replace K6 := Lib.hid (K6.out.next hb)
              replace K15 := Lib.hid (K15.out.next hb)
              replace BB := Lib.hid (thn BB.out hb)
              clear hb
              have BL2 := Lib.hid (thn BL.out BB.out)
              go_wp2
              go_roundw
              case rel => exact ⟨j + 1, by omega, by go_num, BL2⟩
              case measure => simp [intOf]; omega
            simp only [List.take_succ_cons, List.take_zero]
            refine ⟨?r13g0, ?r13g1, ?r13g2, ?r13g3, ?r13g4, ?r13g5, trivial⟩
            case r13g0 => as_aux_lemma =>
              intro w9 hb
              refine over_nil ?_
              obtain ⟨p0, q0, r0, s0⟩ := (K15.out.next hb).cells
              go_wp2
              first | exact post_of (by rfl) (by rfl) (Below.refl _ _) (by rfl) | exact rfl
            case r13g1 => as_aux_lemma =>
              intro w9 hb
              refine over_nil ?_
              obtain ⟨p0, q0, r0, s0⟩ := (K6.out.next hb).cells
              go_wp2
              first | exact post_of (by rfl) (by rfl) (Below.refl _ _) (by rfl) | exact rfl
            case r13g2 => as_aux_lemma =>
              intro w9 hb
              refine over_some (ds1 := [70, 71]) (ds2 := []) [(.agg #[.int .u8 x.1.1, .int .u16 x.1.2.1, .int .u8 x.1.2.2.1, .slice x.2.1 x.2.2.1 x.2.2.2]), (.agg #[.int .u8 d.1, .int .u16 d.2.1, .int .u8 d.2.2.1, .slice hd.1 hd.2.1 hd.2.2])] (by kernel_rfl) ?_
              refine over_nil ?_
              simp only [putAll, put_lit, List.set_cons_succ, List.set_cons_zero]
              go_wp2_with fail
              have hc2 := HDD.out.same x (d, hd) w9 (Sn.next FLX.out hb) (Sn.next FD.out (thn B.out hb)) F1X.out F1D.out
              rw [show decide (x.1 = ((d, hd) : Dsc × Hd).1) = y from HY.out] at hc2
              refine hc2.mono ?_
              clear hc2
              rintro e w8 ⟨rfl, b6⟩
              go_wp2
              exact post_of (by rfl) (by rfl) b6 (by rfl)
            case r13g3 => as_aux_lemma =>
              intro w9 hb
              refine over_nil ?_
              obtain ⟨p0, q0, r0, s0⟩ := (K15.out.next hb).cells
              go_wp2
              first | exact post_of (by rfl) (by rfl) (Below.refl _ _) (by rfl) | exact rfl
            case r13g4 => as_aux_lemma =>
              intro w9 hb
              refine over_nil ?_
              obtain ⟨p0, q0, r0, s0⟩ := (K6.out.next hb).cells
              go_wp2
              first | exact post_of (by rfl) (by rfl) (Below.refl _ _) (by rfl) | exact rfl
            case r13g5 => as_aux_lemma =>
              intro w9 hb
              refine over_some (ds1 := [73, 74]) (ds2 := []) [(.agg #[.int .u8 x.1.1, .int .u16 x.1.2.1, .int .u8 x.1.2.2.1, .slice x.2.1 x.2.2.1 x.2.2.2]), (.agg #[.int .u8 d.1, .int .u16 d.2.1, .int .u8 d.2.2.1, .slice hd.1 hd.2.1 hd.2.2])] (by kernel_rfl) ?_
              refine over_nil ?_
              simp only [putAll, put_lit, List.set_cons_succ, List.set_cons_zero]
              go_wp2_with fail
              have hc2 := desc_any x (d, hd) w9 (Sn.next FLX.out hb) (Sn.next FD.out (thn B.out hb))
              rw [show decide (x.1 = ((d, hd) : Dsc × Hd).1) = y from HY.out] at hc2
              refine hc2.mono ?_
              clear hc2
              rintro e w8 ⟨rfl, b6⟩
              go_wp2
              exact post_of (by rfl) (by rfl) b6 (by rfl)
        · skip
          obtain rfl : j = n := by omega
          clear BL
          obtain ⟨pt, HPT⟩ : ∃ pt, Hid ((!refuseD (vs.map (·.1)) d self rm) = pt) := ⟨_, rfl⟩
          have heb := beql pt
          obtain ⟨P, HP⟩ : ∃ P, Hid (putD (vs.map (·.1)) d self rm = P) := ⟨_, rfl⟩
          obtain ⟨x0, x1, x2, x3⟩ := K6.out.cells
          go_wp2_with fail
          have hc := HDD.out.put Av nv cv vs d hd self rm wr SV.out HFV.out (FD.out.next B.out) F1D.out HSF.out (by omega) HRV.out
          rw [HPT.out, HP.out] at hc
          refine hc.mono ?_
          clear hc
          rintro e w21 ⟨Aa, na, ca, as_, rfl, ma, da, b5⟩
          clear x0 x1 x2 x3
          have SA := Lib.hid da.sds
          have MA := Lib.hid ma
          clear da ma
          replace K6 := Lib.hid (K6.out.next b5)
          replace SV := Lib.hid (SV.out.next b5)
          replace SW := Lib.hid (SW.out.next b5)
          replace B := Lib.hid (thn B.out b5)
          clear b5
          obtain ⟨x0, x1, x2, x3⟩ := K6.out.cells
          go_wp2_with fail
          have hc := refput_any Av nv cv vs d hd self rm w21 SV.out (by have := HFV.out.len; omega) (FD.out.next B.out)
          rw [HPT.out, HP.out] at hc
          refine hc.mono ?_
          clear hc
          rintro e w22 ⟨Ab, nb, cb, bs, rfl, mb, sb, b5⟩
          clear x0 x1 x2 x3
          have SB := Lib.hid sb
          have MB := Lib.hid mb
          clear sb mb
          replace K6 := Lib.hid (K6.out.next b5)
          replace SV := Lib.hid (SV.out.next b5)
          replace SW := Lib.hid (SW.out.next b5)
          replace SA := Lib.hid (SA.out.next b5)
          replace B := Lib.hid (thn B.out b5)
          clear b5
          as_aux_lemma =>
            obtain ⟨x0, x1, x2, x3⟩ := K6.out.cells
            go_wp2_with fail
            have hc := descs_any Aa na ca as_ Ab nb cb bs w22 SA.out SB.out
            rw [show decide (as_.map (·.1) = bs.map (·.1)) = true from decide_eq_true (MA.out.trans MB.out.symm)] at hc
            refine hc.mono ?_
            clear hc
            rintro e w23 ⟨rfl, b5⟩
            clear x0 x1 x2 x3
            replace K6 := Lib.hid (K6.out.next b5)
            replace SV := Lib.hid (SV.out.next b5)
            replace SW := Lib.hid (SW.out.next b5)
            replace SA := Lib.hid (SA.out.next b5)
            replace SB := Lib.hid (SB.out.next b5)
            replace B := Lib.hid (thn B.out b5)
            clear b5
            clear SA SB MA MB
            obtain ⟨kk, HK⟩ : ∃ kk, Hid (findI (vs.map (·.1)) node = kk) := ⟨_, rfl⟩
            obtain ⟨oo, HO⟩ : ∃ oo, Hid (oldI (vs.map (·.1)) = oo) := ⟨_, rfl⟩
            obtain ⟨x0, x1, x2, x3⟩ := K6.out.cells
            go_wp2_with fail
            have hc := HDD.out.find Av nv cv vs node w23 SV.out HFV.out ⟨self, rm, HRV.out⟩ HND.out
            rw [HK.out] at hc
            refine hc.mono ?_
            clear hc
            rintro e w24 ⟨rfl, b5⟩
            clear x0 x1 x2 x3
            replace K6 := Lib.hid (K6.out.next b5)
            replace SV := Lib.hid (SV.out.next b5)
            replace SW := Lib.hid (SW.out.next b5)
            replace B := Lib.hid (thn B.out b5)
            clear b5
            obtain ⟨x0, x1, x2, x3⟩ := K6.out.cells
            go_wp2_with fail
            have hc := reffind_any Av nv cv vs node w24 SV.out
            rw [HK.out] at hc
            refine hc.mono ?_
            clear hc
            rintro e w25 ⟨rfl, b5⟩
            clear x0 x1 x2 x3
            replace K6 := Lib.hid (K6.out.next b5)
            replace SV := Lib.hid (SV.out.next b5)
            replace SW := Lib.hid (SW.out.next b5)
            replace B := Lib.hid (thn B.out b5)
            clear b5
            obtain ⟨x0, x1, x2, x3⟩ := K6.out.cells
            go_wp2_with fail
            have hc := HDD.out.drop Av nv cv vs node w25 SV.out HFV.out ⟨self, rm, HRV.out⟩ HND.out
            refine hc.mono ?_
            clear hc
            rintro e w26 ⟨Aa, na, ca, as_, rfl, ma, da, b5⟩
            clear x0 x1 x2 x3
            have SA := Lib.hid da.sds
            have MA := Lib.hid ma
            clear da ma
            replace K6 := Lib.hid (K6.out.next b5)
            replace SV := Lib.hid (SV.out.next b5)
            replace SW := Lib.hid (SW.out.next b5)
            replace B := Lib.hid (thn B.out b5)
            clear b5
            obtain ⟨x0, x1, x2, x3⟩ := K6.out.cells
            go_wp2_with fail
            have hc := refdrop_any Av nv cv vs node w26 SV.out (by have := HFV.out.len; omega)
            refine hc.mono ?_
            clear hc
            rintro e w27 ⟨Ab, nb, cb, bs, rfl, mb, sb, b5⟩
            clear x0 x1 x2 x3
            have SB := Lib.hid sb
            have MB := Lib.hid mb
            clear sb mb
            replace K6 := Lib.hid (K6.out.next b5)
            replace SV := Lib.hid (SV.out.next b5)
            replace SW := Lib.hid (SW.out.next b5)
            replace SA := Lib.hid (SA.out.next b5)
            replace B := Lib.hid (thn B.out b5)
            clear b5
            obtain ⟨x0, x1, x2, x3⟩ := K6.out.cells
            go_wp2_with fail
            have hc := descs_any Aa na ca as_ Ab nb cb bs w27 SA.out SB.out
            rw [show decide (as_.map (·.1) = bs.map (·.1)) = true from decide_eq_true (MA.out.trans MB.out.symm)] at hc
            refine hc.mono ?_
            clear hc
            rintro e w28 ⟨rfl, b5⟩
            clear x0 x1 x2 x3
            replace K6 := Lib.hid (K6.out.next b5)
            replace SV := Lib.hid (SV.out.next b5)
            replace SW := Lib.hid (SW.out.next b5)
            replace SA := Lib.hid (SA.out.next b5)
            replace SB := Lib.hid (SB.out.next b5)
            replace B := Lib.hid (thn B.out b5)
            clear b5
            clear SA SB MA MB
            as_aux_lemma =>
              obtain ⟨x0, x1, x2, x3⟩ := K6.out.cells
              go_wp2_with fail
              have hc := HDD.out.older Av nv cv vs w28 SV.out HFV.out ⟨self, rm, HRV.out⟩
              refine hc.mono ?_
              clear hc
              rintro e w29 ⟨Aa, na, ca, as_, rfl, ma, da, b5⟩
              clear x0 x1 x2 x3
              have SA := Lib.hid da.sds
              have MA := Lib.hid ma
              clear da ma
              replace K6 := Lib.hid (K6.out.next b5)
              replace SV := Lib.hid (SV.out.next b5)
              replace SW := Lib.hid (SW.out.next b5)
              replace B := Lib.hid (thn B.out b5)
              clear b5
              obtain ⟨x0, x1, x2, x3⟩ := K6.out.cells
              go_wp2_with fail
              have hc := refolder_any Av nv cv vs w29 SV.out (by have := HFV.out.len; omega) (fun x hx => (HFV.out.all x hx).1)
              refine hc.mono ?_
              clear hc
              rintro e w30 ⟨Ab, nb, cb, bs, rfl, mb, sb, b5⟩
              clear x0 x1 x2 x3
              have SB := Lib.hid sb
              have MB := Lib.hid mb
              clear sb mb
              replace K6 := Lib.hid (K6.out.next b5)
              replace SV := Lib.hid (SV.out.next b5)
              replace SW := Lib.hid (SW.out.next b5)
              replace SA := Lib.hid (SA.out.next b5)
              replace B := Lib.hid (thn B.out b5)
              clear b5
              obtain ⟨x0, x1, x2, x3⟩ := K6.out.cells
              go_wp2_with fail
              have hc := descs_any Aa na ca as_ Ab nb cb bs w30 SA.out SB.out
              rw [show decide (as_.map (·.1) = bs.map (·.1)) = true from decide_eq_true (MA.out.trans MB.out.symm)] at hc
              refine hc.mono ?_
              clear hc
              rintro e w31 ⟨rfl, b5⟩
              clear x0 x1 x2 x3
              replace K6 := Lib.hid (K6.out.next b5)
              replace SV := Lib.hid (SV.out.next b5)
              replace SW := Lib.hid (SW.out.next b5)
              replace SA := Lib.hid (SA.out.next b5)
              replace SB := Lib.hid (SB.out.next b5)
              replace B := Lib.hid (thn B.out b5)
              clear b5
              clear SA SB MA MB
              obtain ⟨x0, x1, x2, x3⟩ := K6.out.cells
              go_wp2_with fail
              have hc := HDD.out.oldest Av nv cv vs w31 SV.out HFV.out ⟨self, rm, HRV.out⟩
              rw [HO.out] at hc
              refine hc.mono ?_
              clear hc
              rintro e w32 ⟨rfl, b5⟩
              clear x0 x1 x2 x3
              replace K6 := Lib.hid (K6.out.next b5)
              replace SV := Lib.hid (SV.out.next b5)
              replace SW := Lib.hid (SW.out.next b5)
              replace B := Lib.hid (thn B.out b5)
              clear b5
              obtain ⟨x0, x1, x2, x3⟩ := K6.out.cells
              go_wp2_with fail
              have hc := refoldest_any Av nv cv vs w32 SV.out (fun x hx => (HFV.out.all x hx).1)
              rw [HO.out] at hc
              refine hc.mono ?_
              clear hc
              rintro e w33 ⟨rfl, b5⟩
              clear x0 x1 x2 x3
              replace K6 := Lib.hid (K6.out.next b5)
              replace SV := Lib.hid (SV.out.next b5)
              replace SW := Lib.hid (SW.out.next b5)
              replace B := Lib.hid (thn B.out b5)
              clear b5
              obtain ⟨x0, x1, x2, x3⟩ := K6.out.cells
              go_wp2_with fail
              have hc := descs_any Av nv cv vs Aw nw cw ws w33 SV.out SW.out
              rw [show decide (vs.map (·.1) = ws.map (·.1)) = true from decide_eq_true MW.out.symm] at hc
              refine hc.mono ?_
              clear hc
              rintro e w34 ⟨rfl, b5⟩
              clear x0 x1 x2 x3
              replace K6 := Lib.hid (K6.out.next b5)
              replace SV := Lib.hid (SV.out.next b5)
              replace SW := Lib.hid (SW.out.next b5)
              replace B := Lib.hid (thn B.out b5)
              clear b5
              obtain ⟨x0, x1, x2, x3⟩ := K6.out.cells
              go_wp2_with fail
              refine (awake_any HDD.out w34).mono ?_
              rintro e w35 ⟨rfl, b5⟩
              replace B := Lib.hid (thn B.out b5)
              clear b5
              go_wp2
              go_ret
              exact ⟨rfl, B.out⟩
end Go.Proofs.Ytlkjlmmdllkdcaa
