/- Layer 9: DescApart. -/
import Derived.Test.YtlkjlmmdllkdcaaRap
import Derived.Test.YtlkjlmmdllkdcaaRbb
namespace Go.Proofs.Ytlkjlmmdllkdcaa
open Go.RowKit
set_option linter.unusedVariables false
def tyL9 (ds : List Dsc) : Ty := .pred (fun v u => ∃ (A : Option Addr) (n c : Nat) (xs : List (Dsc × Hd)), v = .slice A n c ∧ xs.map (·.1) = ds ∧ Sds u A n c xs) (fun _ _ _ ⟨A, n, c, xs, h1, h2, h3⟩ hb => ⟨A, n, c, xs, h1, h2, h3.next hb⟩)
def tyT9 (d : Dsc) (h : Hd) : Ty := .pred (fun v u => ∃ g : Nat, v = .slice (some ⟨g, 0, none⟩) 1 1 ∧ Sds u (some ⟨g, 0, none⟩) 1 1 [(d, h)]) (fun _ _ _ ⟨g, h1, h3⟩ hb => ⟨g, h1, h3.next hb⟩)
theorem Dow.grownLt {w w' : World} {B g : Nat} {A : Option Addr} {n c : Nat} {xs : List (Dsc × Hd)} (h : Dow w B A n c xs) (hg : w.grownBy w' (some g)) (hlt : g < B) : Dow w' B A n c xs :=
  ⟨h.ow.grown hg fun q hq => by have := (h.ow.near q hq).1; omega, fun x hx => (h.fo x hx).grown hg fun q hq => by have := ((h.fo x hx).near q hq).1; omega⟩
theorem lit1 (w : World) (d : Dsc) (h : Hd) (hf : Fl w (d, h)) : Sds (w.alloc (.cells #[.int .u8 d.1, .int .u16 d.2.1, .int .u8 d.2.2.1, .slice h.1 h.2.1 h.2.2] 27)) (some ⟨w.heap.size, 0, none⟩) 1 1 [(d, h)] :=
  ⟨(Sn.lit w #[.int .u8 d.1, .int .u16 d.2.1, .int .u8 d.2.2.1, .slice h.1 h.2.1 h.2.2] 27 (0, 0) 4 1 rfl (by decide)).more (by simp), fun x hx => by rw [List.mem_singleton] at hx; subst hx; exact Sn.next hf (below_lit _ _)⟩
set_option maxRecDepth 100000 in
set_option maxHeartbeats 40000000 in
theorem apart_walk (HD : DescOK) (A : Option Addr) (n c : Nat) (xs : List (Dsc × Hd)) (d : Dsc) (hd : Hd) (self : Int) (w : World) (h : Sds w A n c xs) (fd : Fl w (d, hd)) (hR : ∀ x ∈ xs, dscR x.1) (rd : dscR d) (hs : byt self) : Calls Try.prog 7 #[.slice A n c, (.agg #[.int .u8 d.1, .int .u16 d.2.1, .int .u8 d.2.2.1, .slice hd.1 hd.2.1 hd.2.2]), .int .u8 self] w fun e w' => e = .returned (.bool true) ∧ Below w.heap.size w w' := by
  have HDD := Lib.hid HD
  have HL := Lib.hid h.len
  have HR := Lib.hid hR
  have HRD := Lib.hid rd
  have HSF := Lib.hid hs
  have HS := Lib.hid h
  have FD : Hid (Fl w (d, hd)) := fd
  have HLD : Hid (hd.2.1 = d.2.2.2.length) := sp_len fd
  have B := Lib.hid (below_lit w (.cells #[.int .u8 d.1, .int .u16 d.2.1, .int .u8 d.2.2.1, .slice hd.1 hd.2.1 hd.2.2] 27))
  have K4 : Hid (DBlk (w.alloc (.cells #[.int .u8 d.1, .int .u16 d.2.1, .int .u8 d.2.2.1, .slice hd.1 hd.2.1 hd.2.2] 27)) w.heap.size d hd) := DBlk.new w d hd
  obtain ⟨f, HFW⟩ : ∃ f, Hid (fewB (xs.map (·.1)) = f) := ⟨_, rfl⟩
  clear h fd hR rd hs HD
  go_enter Try.func7, Try.ntmps7
  go_upto_region 1 with fail
  generalize w.alloc (.cells #[.int .u8 d.1, .int .u16 d.2.1, .int .u8 d.2.2.1, .slice hd.1 hd.2.1 hd.2.2] 27) = w1 at *
  obtain ⟨g4, hg⟩ : ∃ g, w.heap.size = g := ⟨_, rfl⟩
  have L4 : Hid (w.heap.size ≤ g4) := Nat.le_of_eq hg
  rw [hg] at K4 ⊢
  clear hg
  obtain ⟨x0, x1, x2, x3⟩ := K4.out.cells
  go_wp2_with fail
  have hc := few_any A n c xs w1 (HS.out.next B.out)
  rw [HFW.out] at hc
  refine hc.mono ?_
  clear hc
  rintro e w2 ⟨rfl, b5⟩
  clear x0 x1 x2 x3
  replace K4 := Lib.hid (K4.out.next b5)
  replace B := Lib.hid (thn B.out b5)
  clear b5
  cases f
  · skip
    obtain ⟨x0, x1, x2, x3⟩ := K4.out.cells
    go_wp2_with fail
    refine (awake_any HDD.out w2).mono ?_
    rintro e w3 ⟨rfl, b5⟩
    replace B := Lib.hid (thn B.out b5)
    clear b5
    go_wp2
    go_ret
    exact ⟨rfl, B.out⟩
  · skip
    have HFX := Lib.hid (few_fit HFW.out HL.out HR.out)
    by_cases l8 : (8 : Int) < (hd.2.1 : Int)
    · skip
      obtain ⟨x0, x1, x2, x3⟩ := K4.out.cells
      go_wp2_with fail
      refine (awake_any HDD.out w2).mono ?_
      rintro e w3 ⟨rfl, b5⟩
      replace B := Lib.hid (thn B.out b5)
      clear b5
      go_wp2
      go_ret
      exact ⟨rfl, B.out⟩
    · skip
      have F1D : Hid (Fit1 d) := ⟨HRD.out, by have := HLD.out; omega⟩
      obtain ⟨x0, x1, x2, x3⟩ := K4.out.cells
      go_wp2_with fail
      have hc := view_any A n c xs self 20 w2 (HS.out.next B.out) HR.out (by decide)
      refine hc.mono ?_
      clear hc
      rintro e w3 ⟨Ai, ni, ci, vi, rfl, hv, sv, b5⟩
      clear x0 x1 x2 x3
      have SI := Lib.hid sv.sds
      have HV := Lib.hid hv
      clear sv hv
      replace K4 := Lib.hid (K4.out.next b5)
      replace B := Lib.hid (thn B.out b5)
      clear b5
      have HFI : Hid (Fit ni vi) := view_fit HV.out HFX.out (by decide) SI.out.len
      obtain ⟨x0, x1, x2, x3⟩ := K4.out.cells
      go_wp2_with fail
      have hc := anew_any Ai ni ci vi w3 SI.out (by have := HFI.out.len; omega) (fun x hx => by have := (HFI.out.all x hx).2; omega)
      refine hc.mono ?_
      clear hc
      rintro e w4 ⟨Av, nv, cv, vs, rfl, mv, dv, b5⟩
      clear x0 x1 x2 x3
      have DV := Lib.hid dv
      have LB1 := Lib.hid K4.out.lt
      have HRV : Hid (RightD (vs.map (·.1)) self 20) := by unfold Hid; rw [mv]; exact HV.out.right
      have HFV : Hid (Fit nv vs) := fit_of mv (by have h1 := HFI.out.len; have h2 := SI.out.len; have h3 := dv.len; have h4 := congrArg List.length mv; simp at h4; omega) (fun d hd => by obtain ⟨z, hz, rfl⟩ := List.mem_map.1 hd; exact HFI.out.all z hz)
      clear dv mv SI HFI HV
      replace K4 := Lib.hid (K4.out.next b5)
      replace B := Lib.hid (thn B.out b5)
      clear b5
      have F4 : Hid (Fl w4 (d, hd)) := Sn.next FD.out B.out
      have hl1 := Lib.hid (lit1 w4 d hd F4.out)
      obtain ⟨x0, x1, x2, x3⟩ := K4.out.cells
      go_wp2_with fail
      clear x0 x1 x2 x3
      have hbl := below_lit w4 (.cells #[.int .u8 d.1, .int .u16 d.2.1, .int .u8 d.2.2.1, .slice hd.1 hd.2.1 hd.2.2] 27)
      replace K4 := Lib.hid (K4.out.next hbl)
      replace DV := Lib.hid (DV.out.next hbl)
      replace B := Lib.hid (thn B.out hbl)
      clear hbl
      refine (anew_any (some ⟨w4.heap.size, 0, none⟩) 1 1 [(d, hd)] _ hl1.out (by decide) (fun x hx => by rw [List.mem_singleton] at hx; subst hx; have := F1D.out.2; show d.2.2.2.length ≤ 1000000; omega)).mono ?_
      rintro e w5 ⟨A1, n1, c1, z1, rfl, m1, d1, b5⟩
      obtain ⟨h2, rfl⟩ : ∃ h2, z1 = [(d, h2)] := by rcases z1 with _ | ⟨⟨z, hz⟩, _ | ⟨z2, t2⟩⟩ <;> simp at m1; subst m1; exact ⟨hz, rfl⟩
      obtain rfl : n1 = 1 := d1.len
      have S1 := Lib.hid d1.sds
      have O4 := Lib.hid (d1.fo (d, h2) List.mem_cons_self)
      have LB2 := Lib.hid K4.out.lt
      clear m1 d1 hl1
      replace K4 := Lib.hid (K4.out.next b5)
      replace DV := Lib.hid (DV.out.next b5)
      replace B := Lib.hid (thn B.out b5)
      clear b5
      obtain ⟨b1, o1, y, rfl, hb1, hy, _, y0, y1, y2, y3⟩ := S1.out.at_ (j := 0) (by decide)
      obtain rfl := Option.some.inj hy
      simp only [Nat.zero_mul, Nat.add_zero] at y0 y1 y2 y3
      clear hy hb1
      obtain ⟨x0, x1, x2, x3⟩ := K4.out.cells
      have f0 := K4.out.free 0
      have f1 := K4.out.free 1
      have f2 := K4.out.free 2
      have f3 := K4.out.free 3
      go_upto_region 5 with fail
      clear x0 x1 x2 x3
      clear y0 y1 y2 y3 f0 f1 f2 f3
      have hgs := grown_set4 w5 g4 d h2
      replace DV := Lib.hid (DV.out.grownLt hgs LB1.out)
      replace O4 := Lib.hid (O4.out.grown hgs fun q hq => by have := (O4.out.near q hq).1; have := LB2.out; omega)
      replace K4 := Lib.hid (K4.out.wrote d h2)
      replace B := Lib.hid (belowG B.out hgs B.out.size L4.out)
      clear hgs S1 F4 LB1 LB2
      generalize (((w5.setCell ⟨g4, 0, none⟩ (.int .u8 d.1)).setCell ⟨g4, 1, none⟩ (.int .u16 d.2.1)).setCell ⟨g4, 2, none⟩ (.int .u8 d.2.2.1)).setCell ⟨g4, 3, none⟩ (.slice h2.1 h2.2.1 h2.2.2) = u6 at *
      have SV := Lib.hid DV.out.sds
      have F4 : Hid (Fl u6 (d, h2)) := Sn.of_own O4.out
      clear DV O4
      refine wp_region_typed 5 [(35, .val (.slice Av nv cv)), (36, tyL9 (vs.map (·.1))), (37, .val (.agg #[.int .u8 d.1, .int .u16 d.2.1, .int .u8 d.2.2.1, .slice h2.1 h2.2.1 h2.2.2])), (38, tyT9 d h2), (39, tyL9 [d])]
        [[], [35], [], [37], [38]] (by kernel_rfl) (by kernel_rfl) ?_ ?_
      rotate_left
      · intro v7 hb
        simp only [List.take_succ_cons, List.take_zero, List.drop_succ_cons, List.drop_zero]
        refine over_ds (ds := [35, 36, 37, 38, 39]) (by kernel_rfl) ?_
        refine over_some (ds1 := [35]) (ds2 := [36, 37, 38, 39]) [(.slice Av nv cv)] (by kernel_rfl) ?_
        refine over_pred rfl ?_
        rintro _ ⟨A36, n36, c36, k36, rfl, m36, s36⟩
        refine over_some (ds1 := [37]) (ds2 := [38, 39]) [(.agg #[.int .u8 d.1, .int .u16 d.2.1, .int .u8 d.2.2.1, .slice h2.1 h2.2.1 h2.2.2])] (by kernel_rfl) ?_
        refine over_pred rfl ?_
        rintro _ ⟨g38, rfl, s38⟩
        refine over_pred rfl ?_
        rintro _ ⟨A39, n39, c39, k39, rfl, m39, s39⟩
        refine over_nil ?_
        simp only [putAll, put_lit, List.set_cons_succ, List.set_cons_zero]
        have hb6 := Lib.hid hb
        replace K4 := Lib.hid (K4.out.next hb)
        replace SV := Lib.hid (SV.out.next hb)
        replace B := Lib.hid (thn B.out hb)
        clear hb
        have SK := Lib.hid s36
        have MK := Lib.hid m36
        have SO := Lib.hid s39
        have MO := Lib.hid m39
        clear s36 m36 s38 s39 m39
        have F6 : Hid (Fl v7 (d, h2)) := Sn.next F4.out hb6.out
        have B6 := Lib.hid (Below.refl v7.heap.size v7)
        clear F4
        obtain ⟨x0, x1, x2, x3⟩ := (K4.out.next B6.out).cells
        go_wp2_with fail
        refine (HDD.out.put Av nv cv vs d h2 self 30 v7 SV.out HFV.out F6.out F1D.out HSF.out (by decide) (HRV.out.wider (by decide))).mono ?_
        rintro e w8 ⟨A0, n0, c0, z0, rfl, -, d0, b5⟩
        clear x0 x1 x2 x3
        have E0 : Hid (DowE _ v7.heap.size A0 n0 c0 _) := ⟨z0, d0.mono B6.out.size, rfl⟩
        clear d0
        replace B6 := Lib.hid (thn B6.out b5)
        clear b5
        obtain ⟨x0, x1, x2, x3⟩ := (K4.out.next B6.out).cells
        go_wp2_with fail
        refine (HDD.out.copy Av nv cv vs w8 (SV.out.next B6.out) HFV.out).mono ?_
        rintro e w9 ⟨A1, n1, c1, z1, rfl, -, d1, b5⟩
        clear x0 x1 x2 x3
        have E1 : Hid (DowE _ v7.heap.size A1 n1 c1 _) := ⟨z1, d1.mono B6.out.size, rfl⟩
        clear d1
        replace E0 := Lib.hid (E0.out.next b5)
        replace B6 := Lib.hid (thn B6.out b5)
        clear b5
        obtain ⟨x0, x1, x2, x3⟩ := (K4.out.next B6.out).cells
        go_wp2_with fail
        refine (HDD.out.drop Av nv cv vs 0 w9 (SV.out.next B6.out) HFV.out ⟨self, 20, HRV.out⟩ (by decide)).mono ?_
        rintro e w10 ⟨A2, n2, c2, z2, rfl, -, d2, b5⟩
        clear x0 x1 x2 x3
        have E2 : Hid (DowE _ v7.heap.size A2 n2 c2 _) := ⟨z2, d2.mono B6.out.size, rfl⟩
        clear d2
        replace E0 := Lib.hid (E0.out.next b5)
        replace E1 := Lib.hid (E1.out.next b5)
        replace B6 := Lib.hid (thn B6.out b5)
        clear b5
        obtain ⟨x0, x1, x2, x3⟩ := (K4.out.next B6.out).cells
        go_wp2_with fail
        refine (HDD.out.older Av nv cv vs w10 (SV.out.next B6.out) HFV.out ⟨self, 20, HRV.out⟩).mono ?_
        rintro e w11 ⟨A3, n3, c3, z3, rfl, -, d3, b5⟩
        clear x0 x1 x2 x3
        have E3 : Hid (DowE _ v7.heap.size A3 n3 c3 _) := ⟨z3, d3.mono B6.out.size, rfl⟩
        clear d3
        replace E0 := Lib.hid (E0.out.next b5)
        replace E1 := Lib.hid (E1.out.next b5)
        replace E2 := Lib.hid (E2.out.next b5)
        replace B6 := Lib.hid (thn B6.out b5)
        clear b5
        have hbl := below_lit w11 (.cells #[.slice A0 n0 c0, .slice A1 n1 c1, .slice A2 n2 c2, .slice A3 n3 c3] 22)
        replace E0 := Lib.hid (E0.out.next hbl)
        replace E1 := Lib.hid (E1.out.next hbl)
        replace E2 := Lib.hid (E2.out.next hbl)
        replace E3 := Lib.hid (E3.out.next hbl)
        replace B6 := Lib.hid (thn B6.out hbl)
        clear hbl
        have HF4 : Hid (Four (w11.alloc (.cells #[.slice A0 n0 c0, .slice A1 n1 c1, .slice A2 n2 c2, .slice A3 n3 c3] 22)) w11.heap.size v7.heap.size) := ⟨⟨_, heap_alloc_new w11 _⟩, fun j hj => by rcases (by omega : j = 0 ∨ j = 1 ∨ j = 2 ∨ j = 3) with rfl | rfl | rfl | rfl; (exact ⟨_, _, _, _, (World.cell?_alloc_at (w := w11) _ _ _ 0 rfl).trans rfl, E0.out⟩); (exact ⟨_, _, _, _, (World.cell?_alloc_at (w := w11) _ _ _ 1 rfl).trans rfl, E1.out⟩); (exact ⟨_, _, _, _, (World.cell?_alloc_at (w := w11) _ _ _ 2 rfl).trans rfl, E2.out⟩); (exact ⟨_, _, _, _, (World.cell?_alloc_at (w := w11) _ _ _ 3 rfl).trans rfl, E3.out⟩)⟩
        go_wp2
        generalize w11.alloc (.cells #[.slice A0 n0 c0, .slice A1 n1 c1, .slice A2 n2 c2, .slice A3 n3 c3] 22) = wL at *
        obtain ⟨gl, hgl⟩ : ∃ g, w11.heap.size = g := ⟨_, rfl⟩
        rw [hgl] at HF4 ⊢
        clear hgl E0 E1 E2 E3
        go_loopw [13, 14, 15, 56] (fun _ _ _ iv wr => ∃ j : Nat, j ≤ 4 ∧ iv = .int .i64 j ∧ Hid (Four wr gl v7.heap.size) ∧ Hid (Below v7.heap.size v7 wr)) (fun _ _ _ iv _ => 4 - (intOf iv).toNat)
        case atStart => exact ⟨0, by decide, rfl, HF4, B6⟩
        case round =>
          clear HF4 B6
          obtain ⟨j, hj, rfl, HF4, B6⟩ := hrel
          have i0 : (0 : Int) ≤ (j : Int) := by omega
          by_cases hlt : j < 4
          · as_aux_lemma =>
              obtain ⟨A5, n5, c5, hs, cj, HE⟩ := HF4.out.all j hlt
              have HE5 := Lib.hid HE
              clear HE
              have i1 : (j : Int) < 4 := by omega
              have hnc5 : n5 ≤ c5 ∧ c5 ≤ maxLen := by obtain ⟨zs, h1, _⟩ := HE5.out; exact ⟨h1.sds.cap, h1.sds.max⟩
              obtain ⟨nc5, mc5⟩ := hnc5
              unfold maxLen at mc5
              go_wp2
              clear cj
              go_loopw [14, 15, 62] (fun _ _ iv wr => ∃ i : Nat, i ≤ n5 ∧ iv = .int .i64 i ∧ Hid (Four wr gl v7.heap.size) ∧ Hid (DowE wr v7.heap.size A5 n5 c5 hs) ∧ Hid (Below v7.heap.size v7 wr)) (fun _ _ iv _ => n5 - (intOf iv).toNat)
              case atStart => exact ⟨0, Nat.zero_le _, rfl, HF4, HE5, B6⟩
              case round =>
                clear HF4 HE5 B6
                obtain ⟨i, hi, rfl, HF4, HE5, B6⟩ := hrel
                have k0 : (0 : Int) ≤ (i : Int) := by omega
                by_cases hli : i < n5
                · as_aux_lemma =>
                    obtain ⟨g5, z, rfl, T5, hB5, _, _, hz, ca, fa, ch, _⟩ := HE5.out.at_ hli
                    have k1 : (i : Int) < (n5 : Int) := by omega
                    have HZ := Lib.hid hz
                    clear hz
                    go_upto_region 14 with fail
                    have HF5 : Hid (Four (wr.setCell ⟨g5, i * 4 + 2, none⟩ (.int .u8 ((z.1.2.2.1 + 1) % 256))) gl v7.heap.size) := HF4.out.age T5 i _
                    have HE6 : Hid (DowE (wr.setCell ⟨g5, i * 4 + 2, none⟩ (.int .u8 ((z.1.2.2.1 + 1) % 256))) v7.heap.size (some ⟨g5, 0, none⟩) n5 c5 hs) := HE5.out.age T5 i _
                    have B7 : Hid (Below v7.heap.size v7 (wr.setCell ⟨g5, i * 4 + 2, none⟩ (.int .u8 ((z.1.2.2.1 + 1) % 256)))) := B6.out.setCell (p := ⟨g5, i * 4 + 2, none⟩) hB5 _
                    clear HF4 HE5 B6 ca fa ch T5
                    generalize wr.setCell ⟨g5, i * 4 + 2, none⟩ (.int .u8 ((z.1.2.2.1 + 1) % 256)) = wa at *
                    obtain ⟨g6, z6, e6, _, _, _, _, hz6, _, _, ch, hO⟩ := HE6.out.at_ hli
                    injection e6 with e6
                    injection e6 with e6
                    subst e6
                    have hze : z6.2 = z.2 := Option.some.inj (hz6.symm.trans HZ.out)
                    rw [hze] at ch hO
                    have nf : z.2.2.1 ≤ z.2.2.2 ∧ z.2.2.2 ≤ maxLen := ⟨(Sn.of_own hO).cap, (Sn.of_own hO).max⟩
                    obtain ⟨nf1, nf2⟩ := nf
                    unfold maxLen at nf2
                    clear hz6 hO hze
                    go_wp2
                    clear ch
                    go_loopw [15, 79] (fun _ iv wr => ∃ p : Nat, p ≤ z.2.2.1 ∧ iv = .int .i64 p ∧ Hid (Four wr gl v7.heap.size) ∧ Hid (DowE wr v7.heap.size (some ⟨g5, 0, none⟩) n5 c5 hs) ∧ Hid (Below v7.heap.size v7 wr)) (fun _ iv _ => z.2.2.1 - (intOf iv).toNat)
                    case atStart => exact ⟨0, Nat.zero_le _, rfl, HF5, HE6, B7⟩
                    case round =>
                      clear HF5 HE6 B7
                      obtain ⟨p, hp, rfl, HF5, HE6, B7⟩ := hrel
                      have p0 : (0 : Int) ≤ (p : Int) := by omega
                      by_cases hlp : p < z.2.2.1
                      · as_aux_lemma =>
                          obtain ⟨g6, z6, e6, _, _, _, _, hz6, _, _, ch, hO⟩ := HE6.out.at_ hli
                          injection e6 with e6
                          injection e6 with e6
                          subst e6
                          have hze : z6.2 = z.2 := Option.some.inj (hz6.symm.trans HZ.out)
                          rw [hze] at ch hO
                          obtain ⟨q6, pr, hq6, T6, hB6, cp, fp⟩ := span_at hO hlp
                          rw [hq6] at ch
                          have p1 : (p : Int) < (z.2.2.1 : Int) := by omega
                          clear hz6 hO hze hq6
                          go_upto_region 18 with fail
                          have HF7 : Hid (Four (wr.setCell ⟨q6, p * 2, none⟩ (.int .i32 (wrap32 (pr.1 + 1)))) gl v7.heap.size) := HF5.out.span T6 p _
                          have HE7 : Hid (DowE (wr.setCell ⟨q6, p * 2, none⟩ (.int .i32 (wrap32 (pr.1 + 1)))) v7.heap.size (some ⟨g5, 0, none⟩) n5 c5 hs) := HE6.out.span T6 p _
                          have B8 : Hid (Below v7.heap.size v7 (wr.setCell ⟨q6, p * 2, none⟩ (.int .i32 (wrap32 (pr.1 + 1))))) := B7.out.setCell (p := ⟨q6, p * 2, none⟩) hB6 _
                          clear HF5 HE6 B7 cp fp ch T6
                          generalize wr.setCell ⟨q6, p * 2, none⟩ (.int .i32 (wrap32 (pr.1 + 1))) = wb at *
                          go_wp2
                          go_roundw
                          case rel => exact ⟨p + 1, by omega, by go_num, HF7, HE7, B8⟩
                          case measure => simp [intOf]; omega
                      · have hpe : p = z.2.2.1 := by omega
                        have p2 : ¬ ((p : Int) < (z.2.2.1 : Int)) := by omega
                        clear hpe
                        go_wp2
                        go_roundw
                        case rel => exact ⟨i + 1, by omega, by go_num, HF5, HE6, B7⟩
                        case measure => simp [intOf]; omega
                · obtain rfl : i = n5 := by omega
                  go_wp2
                  go_roundw
                  case rel => exact ⟨j + 1, by omega, by go_num, HF4, B6⟩
                  case measure => simp [intOf]; omega
          · obtain rfl : j = 4 := by omega
            as_aux_lemma =>
              replace B := Lib.hid (thn B.out B6.out)
              replace SV := Lib.hid (SV.out.next B6.out)
              replace SK := Lib.hid (SK.out.next B6.out)
              replace SO := Lib.hid (SO.out.next B6.out)
              replace K4 := Lib.hid (K4.out.next B6.out)
              replace F6 : Hid (Fl wr (d, h2)) := Sn.next F6.out B6.out
              clear B6 HF4
              obtain ⟨x0, x1, x2, x3⟩ := K4.out.cells
              go_wp2_with fail
              have hc := descs_any Av nv cv vs A36 n36 c36 k36 wr SV.out SK.out
              rw [show decide (vs.map (·.1) = k36.map (·.1)) = true from decide_eq_true MK.out.symm] at hc
              refine hc.mono ?_
              clear hc
              rintro e w51 ⟨rfl, b5⟩
              clear x0 x1 x2 x3
              replace SV := Lib.hid (SV.out.next b5)
              replace SK := Lib.hid (SK.out.next b5)
              replace SO := Lib.hid (SO.out.next b5)
              replace K4 := Lib.hid (K4.out.next b5)
              replace F6 := Lib.hid (Sn.next F6.out b5)
              replace B := Lib.hid (thn B.out b5)
              clear b5
              obtain ⟨x0, x1, x2, x3⟩ := K4.out.cells
              have hl1 := Lib.hid (lit1 w51 d h2 F6.out)
              go_wp2_with fail
              clear x0 x1 x2 x3
              have hbl := below_lit w51 (.cells #[.int .u8 d.1, .int .u16 d.2.1, .int .u8 d.2.2.1, .slice h2.1 h2.2.1 h2.2.2] 27)
              replace SV := Lib.hid (SV.out.next hbl)
              replace SK := Lib.hid (SK.out.next hbl)
              replace SO := Lib.hid (SO.out.next hbl)
              replace K4 := Lib.hid (K4.out.next hbl)
              replace F6 := Lib.hid (Sn.next F6.out hbl)
              replace B := Lib.hid (thn B.out hbl)
              clear hbl
              have hc := descs_any (some ⟨w51.heap.size, 0, none⟩) 1 1 [(d, h2)] A39 n39 c39 k39 _ hl1.out SO.out
              rw [show decide ([((d, h2) : Dsc × Hd)].map (·.1) = k39.map (·.1)) = true from decide_eq_true MO.out.symm] at hc
              refine hc.mono ?_
              clear hc hl1
              rintro e w52 ⟨rfl, b5⟩
              replace SV := Lib.hid (SV.out.next b5)
              replace SK := Lib.hid (SK.out.next b5)
              replace SO := Lib.hid (SO.out.next b5)
              replace K4 := Lib.hid (K4.out.next b5)
              replace F6 := Lib.hid (Sn.next F6.out b5)
              replace B := Lib.hid (thn B.out b5)
              clear b5
              obtain ⟨x0, x1, x2, x3⟩ := K4.out.cells
              go_wp2_with fail
              have hc := HDD.out.same (d, h2) (d, h2) w52 F6.out F6.out F1D.out F1D.out
              rw [show decide (((d, h2) : Dsc × Hd).1 = ((d, h2) : Dsc × Hd).1) = true from decide_eq_true rfl] at hc
              refine hc.mono ?_
              clear hc
              rintro e w53 ⟨rfl, b5⟩
              clear x0 x1 x2 x3
              replace SV := Lib.hid (SV.out.next b5)
              replace SK := Lib.hid (SK.out.next b5)
              replace SO := Lib.hid (SO.out.next b5)
              replace K4 := Lib.hid (K4.out.next b5)
              replace F6 := Lib.hid (Sn.next F6.out b5)
              replace B := Lib.hid (thn B.out b5)
              clear b5
              obtain ⟨x0, x1, x2, x3⟩ := K4.out.cells
              go_wp2_with fail
              refine (awake_any HDD.out w53).mono ?_
              rintro e w54 ⟨rfl, b5⟩
              replace B := Lib.hid (thn B.out b5)
              clear b5
              go_wp2
              go_ret
              exact ⟨rfl, B.out⟩
      simp only [List.take_succ_cons, List.take_zero]
      refine ⟨?r5g0, ?r5g1, ?r5g2, ?r5g3, ?r5g4, trivial⟩
      case r5g0 => as_aux_lemma =>
        intro w9 hb
        refine over_nil ?_
        go_wp2
        first | exact post_of (by rfl) (by rfl) (Below.refl _ _) (by rfl) | exact rfl
      case r5g1 => as_aux_lemma =>
        intro w9 hb
        refine over_some (ds1 := [35]) (ds2 := []) [(.slice Av nv cv)] (by kernel_rfl) ?_
        refine over_nil ?_
        simp only [putAll, put_lit, List.set_cons_succ, List.set_cons_zero]
        go_wp2_with fail
        refine (anew_any Av nv cv vs w9 (SV.out.next hb) (by have := HFV.out.len; omega) (fun x hx => by have := (HFV.out.all x hx).2; omega)).mono ?_
        rintro e w8 ⟨A8, n8, c8, z8, rfl, m8, d8, b6⟩
        have S8 := Lib.hid d8.sds
        have M8 := Lib.hid m8
        clear d8 m8
        go_wp2
        exact post_of (by rfl) (by rfl) b6 (by exact ⟨_, _, _, _, rfl, M8.out, S8.out⟩)
      case r5g2 => as_aux_lemma =>
        intro w9 hb
        refine over_nil ?_
        obtain ⟨p0, q0, r0, s0⟩ := (K4.out.next hb).cells
        go_wp2
        first | exact post_of (by rfl) (by rfl) (Below.refl _ _) (by rfl) | exact rfl
      case r5g3 => as_aux_lemma =>
        intro w9 hb
        refine over_some (ds1 := [37]) (ds2 := []) [(.agg #[.int .u8 d.1, .int .u16 d.2.1, .int .u8 d.2.2.1, .slice h2.1 h2.2.1 h2.2.2])] (by kernel_rfl) ?_
        refine over_nil ?_
        simp only [putAll, put_lit, List.set_cons_succ, List.set_cons_zero]
        go_wp2
        exact post_of (by rfl) (by rfl) (below_lit _ _) (by exact ⟨_, rfl, lit1 _ d h2 (Sn.next F4.out hb)⟩)
      case r5g4 => as_aux_lemma =>
        intro w9 hb
        refine over_pred rfl ?_
        rintro _ ⟨g38, rfl, s38⟩
        refine over_nil ?_
        simp only [put_lit, List.set_cons_succ, List.set_cons_zero]
        have S38 := Lib.hid s38
        clear s38
        go_wp2_with fail
        refine (anew_any (some ⟨g38, 0, none⟩) 1 1 [(d, h2)] w9 S38.out (by decide) (fun x hx => by rw [List.mem_singleton] at hx; subst hx; have := F1D.out.2; show d.2.2.2.length ≤ 1000000; omega)).mono ?_
        rintro e w8 ⟨A8, n8, c8, z8, rfl, m8, d8, b6⟩
        have S8 := Lib.hid d8.sds
        have M8 := Lib.hid m8
        clear d8 m8
        go_wp2
        exact post_of (by rfl) (by rfl) b6 (by exact ⟨_, _, _, _, rfl, M8.out, S8.out⟩)
end Go.Proofs.Ytlkjlmmdllkdcaa
