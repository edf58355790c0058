/- Layer 9: DescBounds. -/
import Derived.Test.YtlkjlmmdllkdcaaRn
import Derived.Deep.CutRange
namespace Go.Proofs.Ytlkjlmmdllkdcaa
open Go.RowKit
set_option linter.unusedVariables false
/-- What a view is known by. -/
structure Vw (w : World) (A : Option Addr) (n c : Nat) (vs : List (Dsc × Hd)) (me room : Int) : Prop where
  sds : Sds w A n c vs
  right : RightD (vs.map (·.1)) me room
  all : ∀ d ∈ vs.map (·.1), Fit1 d
theorem Vw.next {w w' : World} {A : Option Addr} {n c : Nat} {vs : List (Dsc × Hd)} {me room : Int} (h : Vw w A n c vs me room) (hb : Below w.heap.size w w') : Vw w' A n c vs me room := ⟨h.sds.next hb, h.right, h.all⟩
theorem Vw.fit {w : World} {A : Option Addr} {n c : Nat} {vs : List (Dsc × Hd)} {me room : Int} (h : Vw w A n c vs me room) (hr : room ≤ 1000) : Fit n vs := ⟨by have h1 := h.right.2.2.2; rw [List.length_map] at h1; have := h.sds.len; omega, fun x hx => h.all x.1 (List.mem_map.2 ⟨x, hx, rfl⟩)⟩
theorem Vw.put {w w' : World} {A A2 : Option Addr} {n c n2 c2 : Nat} {vs ps : List (Dsc × Hd)} {me room : Int} {d : Dsc} (h : Vw w A n c vs me room) (s : Sds w' A2 n2 c2 ps) (e : ps.map (·.1) = putD (vs.map (·.1)) d me room) (hd : Fit1 d) : Vw w' A2 n2 c2 ps me room := ⟨s, by rw [e]; exact right_put h.right d, fun f hf => by
  rw [e] at hf
  rcases put_mem h.right hf with rfl | hf
  · exact hd
  · exact h.all f hf⟩
theorem Vw.drop {w w' : World} {A A2 : Option Addr} {n c n2 c2 : Nat} {vs ps : List (Dsc × Hd)} {me room node : Int} (h : Vw w A n c vs me room) (s : Sds w' A2 n2 c2 ps) (e : ps.map (·.1) = dropD (vs.map (·.1)) node) : Vw w' A2 n2 c2 ps me room := ⟨s, by rw [e]; exact right_drop h.right node, fun f hf => by
  rw [e] at hf
  exact h.all f (dropD_mem.1 hf).1⟩
theorem Vw.older {w w' : World} {A A2 : Option Addr} {n c n2 c2 : Nat} {vs ps : List (Dsc × Hd)} {me room : Int} (h : Vw w A n c vs me room) (s : Sds w' A2 n2 c2 ps) (e : ps.map (·.1) = olderD (vs.map (·.1))) : Vw w' A2 n2 c2 ps me room := ⟨s, by rw [e]; exact right_older h.right, fun f hf => by
  rw [e] at hf
  obtain ⟨g, hg, rfl⟩ := List.mem_map.1 hf
  obtain ⟨⟨a, b, c⟩, l⟩ := h.all g hg
  refine ⟨⟨a, b, ?_⟩, l⟩
  unfold oldD; simp only; split <;> omega⟩
/-- What is known of a put. -/
theorem put_known {ds : List Dsc} {d : Dsc} {me room : Int} (hr : RightD ds me room) (hd : dscR d) (hall : ∀ e ∈ ds, Fit1 e) : ∃ kk : Int, findI (putD ds d me room) d.1 = kk ∧ -1 ≤ kk ∧ kk < ((putD ds d me room).length : Int) ∧
    (refuseD ds d me room = false → ∃ k : Nat, kk = k ∧ (putD ds d me room)[k]? = some d) ∧
    (refuseD ds d me room = true → (putD ds d me room = ds) ∧ (d.1 ≠ me → 0 < d.2.1 → kk < 0 → room ≤ (ds.length : Int)) ∧
      (∀ k : Nat, kk = k → ∃ e, (putD ds d me room)[k]? = some e ∧ d.1 ≠ me ∧ ¬ e.2.1 < d.2.1 ∧ (e.2.1 = d.2.1 → ¬ d.2.2.1 < e.2.2.1))) := by
  refine ⟨_, rfl, (findI_range _ _).1, (findI_range _ _).2, fun h => ?_, fun h => ?_⟩
  · obtain ⟨h1, h2⟩ := put_there hr h
    exact ⟨_, (Int.toNat_of_nonneg h1).symm, h2⟩
  · have e := put_yes h
    rw [e]
    obtain ⟨p1, p2, p3⟩ := put_kept hr h
    refine ⟨rfl, fun a b c => p1 a (by omega) c, fun k hk => ?_⟩
    obtain ⟨x, hx, hxd⟩ := findI_hit (ds := ds) (n := d.1) (by omega)
    have hm := List.mem_of_getElem? hx
    have hx2 : ds[k]? = some x := by rw [show k = (findI ds d.1).toNat by omega]; exact hx
    have hr1 := hr.1 x hm
    have hx0 := (hall x hm).1.2.1
    refine ⟨x, hx2, by rw [← hxd]; exact hr1.1, ?_, ?_⟩
    · rcases p2 x (by omega) hx with q | q
      · omega
      · have := hx0.1; omega
    · intro q
      have := p3 x (by omega) hx q (by have := hr1.2; omega)
      omega
set_option maxRecDepth 100000 in
set_option maxHeartbeats 40000000 in
theorem bounds_walk (HD : DescOK) (A : Option Addr) (n c : Nat) (xs : List (Dsc × Hd)) (A2 : Option Addr) (n2 c2 : Nat) (ys : List (Dsc × Hd)) (A3 : Option Addr) (n3 c3 : Nat) (l3 : List UInt8) (self room : Int) (w : World) (h : Sds w A n c xs) (h2 : Sds w A2 n2 c2 ys) (h3 : Sl w w.heap.size A3 n3 c3 l3) (hR : ∀ x ∈ xs, dscR x.1) (hR2 : ∀ x ∈ ys, dscR x.1) (hs : byt self) (hrm : byt room) :
    Calls Try.prog 4 #[.slice A n c, .slice A2 n2 c2, .slice A3 n3 c3, .int .u8 self, .int .u8 room] w fun e w' => e = .returned (.bool true) ∧ Below w.heap.size w w' := by
  have HDD := Lib.hid HD
  have HL := Lib.hid h.len
  have HR := Lib.hid hR
  have HS := Lib.hid h
  have HL2 := Lib.hid h2.len
  have HR2 := Lib.hid hR2
  have HS2 := Lib.hid h2
  have HS3 := Lib.hid h3
  have HSF := Lib.hid hs
  have hm2 := h2.max
  have hc2 := h2.cap
  have hm3 := h3.max
  have hc3 := h3.cap
  unfold maxLen at hm2 hm3
  have B := Lib.hid (Below.refl w.heap.size w)
  obtain ⟨f, HFW⟩ : ∃ f, Hid (fewB (xs.map (·.1)) = f) := ⟨_, rfl⟩
  obtain ⟨f2, HFW2⟩ : ∃ f, Hid (fewB (ys.map (·.1)) = f) := ⟨_, rfl⟩
  obtain ⟨rm, hrm1⟩ : ∃ r, Int.tmod room 21 = r := ⟨_, rfl⟩
  have rm0 : 0 ≤ rm := by rw [← hrm1]; exact Int.tmod_nonneg _ hrm.1
  have rm1 : rm ≤ 20 := by rw [← hrm1]; have := Int.tmod_lt_of_pos room (show (0 : Int) < 21 by decide); omega
  clear h h2 h3 hR hR2 hs hrm HD
  go_enter Try.func4, Try.ntmps4
  go_wp2_with fail
  have hc := few_any A n c xs w HS.out
  rw [HFW.out] at hc
  refine hc.mono ?_
  clear hc
  rintro e w2 ⟨rfl, b5⟩
  replace B := Lib.hid (thn B.out b5)
  clear b5
  cases f
  · skip
    go_wp2_with fail
    refine (awake_any HDD.out w2).mono ?_
    rintro e w3 ⟨rfl, b5⟩
    replace B := Lib.hid (thn B.out b5)
    clear b5
    go_wp2
    go_ret
    exact ⟨rfl, B.out⟩
  · skip
    go_wp2_with fail
    have hc := few_any A2 n2 c2 ys w2 (HS2.out.next B.out)
    rw [HFW2.out] at hc
    refine hc.mono ?_
    clear hc
    rintro e w3 ⟨rfl, b5⟩
    replace B := Lib.hid (thn B.out b5)
    clear b5
    cases f2
    · skip
      go_wp2_with fail
      refine (awake_any HDD.out w3).mono ?_
      rintro e w4 ⟨rfl, b5⟩
      replace B := Lib.hid (thn B.out b5)
      clear b5
      go_wp2
      go_ret
      exact ⟨rfl, B.out⟩
    · skip
      have HFX := Lib.hid (few_fit HFW.out HL.out HR.out)
      have HFY := Lib.hid (few_fit HFW2.out HL2.out HR2.out)
      go_wp2_with fail
      refine (view_any A n c xs self rm w3 (HS.out.next B.out) HR.out rm0).mono ?_
      rintro e w4 ⟨Av, nv, cv, vs, rfl, hv, sv, b5⟩
      replace B := Lib.hid (thn B.out b5)
      clear b5
      have HV : Hid (Vw w4 Av nv cv vs self rm) := ⟨sv.sds, hv.right, fun d hd => by obtain ⟨z, hz, rfl⟩ := List.mem_map.1 hd; exact hv.well HFX.out.all z hz⟩
      clear hv sv
      go_wp2
      go_loopw [12, 13, 14, 15, 16, 17, 18, 37] (fun vv _ _ _ _ _ _ iv wr => ∃ (j : Nat) (Av : Option Addr) (nv cv : Nat) (vs : List (Dsc × Hd)), j ≤ n2 ∧ vv = .slice Av nv cv ∧ iv = .int .i64 j ∧ Hid (Vw wr Av nv cv vs self rm) ∧ Hid (Below w.heap.size w wr)) (fun _ _ _ _ _ _ _ iv _ => n2 - (intOf iv).toNat)
      case atStart => exact ⟨0, Av, nv, cv, vs, Nat.zero_le _, rfl, rfl, HV, B⟩
      case round =>
        clear HV B
        obtain ⟨j, Av, nv, cv, vs, hj, rfl, rfl, HV, B⟩ := hrel
        have i0 : (0 : Int) ≤ (j : Int) := by omega
        by_cases hlt : j < n2
        rotate_left
        · obtain rfl : j = n2 := by omega
          go_wp2_with fail
          refine (awake_any HDD.out wr).mono ?_
          rintro e w41 ⟨rfl, b5⟩
          replace B := Lib.hid (thn B.out b5)
          clear b5
          go_wp2
          go_ret
          exact ⟨rfl, B.out⟩
        · skip
          have i1 : (j : Int) < (n2 : Int) := by omega
          obtain ⟨b, off, x, rfl, hb, hx, hxm, c0, c1, c2', c3'⟩ := (HS2.out.next B.out).at_ hlt
          have HFX1 : Hid (Fit1 x.1) := HFY.out.all x hxm
          have HRX : Hid (dscR x.1) := HR2.out x hxm
          have FLX : Hid (Fl wr x) := (HS2.out.next B.out).fl x hxm
          clear hx hxm hb
          go_upto_region 8 with fail
          clear c0 c1 c2' c3'
          have hbl := below_lit wr (.cells #[.int .u8 x.1.1, .int .u16 x.1.2.1, .int .u8 x.1.2.2.1, .slice x.2.1 x.2.2.1 x.2.2.2] 27)
          replace HV := Lib.hid (HV.out.next hbl)
          replace B := Lib.hid (thn B.out hbl)
          replace FLX : Hid (Fl _ x) := Sn.next FLX.out hbl
          clear hbl
          have K14 : Hid (DBlk (wr.alloc (.cells #[.int .u8 x.1.1, .int .u16 x.1.2.1, .int .u8 x.1.2.2.1, .slice x.2.1 x.2.2.1 x.2.2.2] 27)) wr.heap.size x.1 x.2) := DBlk.new wr x.1 x.2
          generalize wr.alloc (.cells #[.int .u8 x.1.1, .int .u16 x.1.2.1, .int .u8 x.1.2.2.1, .slice x.2.1 x.2.2.1 x.2.2.2] 27) = w11 at *
          obtain ⟨g14, hg⟩ : ∃ g, wr.heap.size = g := ⟨_, rfl⟩
          rw [hg] at K14 ⊢
          clear hg
          obtain ⟨pt, HPT⟩ : ∃ pt, Hid (refuseD (vs.map (·.1)) x.1 self rm = !pt) := ⟨!refuseD (vs.map (·.1)) x.1 self rm, by unfold Hid; simp⟩
          obtain ⟨kk, hkf, kk0, kk1, hk2, hk3⟩ := put_known (d := x.1) HV.out.right HRX.out HV.out.all
          have HK2 := Lib.hid hk2
          have HK3 := Lib.hid hk3
          clear hk2 hk3
          obtain ⟨x0, x1, x2, x3⟩ := K14.out.cells
          go_wp2_with fail
          have hc := HDD.out.put Av nv cv vs x.1 x.2 self rm w11 HV.out.sds (HV.out.fit (by omega)) FLX.out HFX1.out HSF.out (by omega) HV.out.right
          rw [HPT.out, Bool.not_not] at hc
          refine hc.mono ?_
          clear hc
          rintro e w12 ⟨A6, n6, c6, ps, rfl, m6, d6, b5⟩
          clear x0 x1 x2 x3
          have HP : Hid (Vw w12 A6 n6 c6 ps self rm) := HV.out.put d6.sds m6 HFX1.out
          have M6 := Lib.hid m6
          rw [← m6] at hkf kk1 HK2 HK3
          rw [List.length_map, ← d6.sds.len] at kk1
          clear m6 d6
          have HKF := Lib.hid hkf
          clear hkf
          replace HV := Lib.hid (HV.out.next b5)
          replace K14 := Lib.hid (K14.out.next b5)
          replace B := Lib.hid (thn B.out b5)
          replace FLX : Hid (Fl _ x) := Sn.next FLX.out b5
          clear b5
          have hm6 := HP.out.sds.max
          have hc6 := HP.out.sds.cap
          unfold maxLen at hm6
          have HL6 := Lib.hid HP.out.sds.len
          have HLV := Lib.hid HV.out.sds.len
          obtain ⟨x0, x1, x2, x3⟩ := K14.out.cells
          go_wp2_with fail
          have hc := HDD.out.find A6 n6 c6 ps x.1.1 w12 HP.out.sds (HP.out.fit (by omega)) ⟨self, rm, HP.out.right⟩ HRX.out.1
          rw [HKF.out] at hc
          refine hc.mono ?_
          clear hc
          rintro e w13 ⟨rfl, b5⟩
          clear x0 x1 x2 x3
          replace HV := Lib.hid (HV.out.next b5)
          replace K14 := Lib.hid (K14.out.next b5)
          replace HP := Lib.hid (HP.out.next b5)
          replace B := Lib.hid (thn B.out b5)
          replace FLX : Hid (Fl _ x) := Sn.next FLX.out b5
          clear b5
          have kk2 : ¬ ((n6 : Int) ≤ kk) := by omega
          obtain ⟨x0, x1, x2, x3⟩ := K14.out.cells
          go_upto_region 11 with fail
          clear x0 x1 x2 x3
          go_cut [85] from 38 to 191 (fun v w' => v = .bool false ∧ Hid (Below w13.heap.size w13 w'))
          case first =>
            cases pt
            · as_aux_lemma =>
                have BB := Lib.hid (Below.refl w13.heap.size w13)
                refine wp_region_typed 29 [(56, .val (.int .i64 kk)), (57, .val (.slice A6 n6 c6)), (58, .val (.int .i64 (n6 : Int))), (59, .val (.bool false)), (60, .val (.bool false)), (61, .val (.bool false)), (62, .val (.bool false)), (63, .val undef), (64, .val undef), (65, .val undef), (66, .val undef), (67, .val undef), (68, .val undef), (69, .val undef), (70, .val undef), (71, .val undef), (72, .val undef), (73, .val undef), (74, .val (.bool false)), (75, .val (.bool false)), (76, .val (.bool false)), (77, .val (.bool false)), (78, .val (.bool true)), (79, .val (.bool true)), (80, .val (.slice A6 n6 c6)), (81, .val (.slice Av nv cv)), (82, .val (.bool true)), (83, .val (.bool false)), (84, .val (.bool false))]
                  [[], [], [57], [56, 58], [59], [60], [60, 61], [62], [62, 63], [62, 64], [65], [65], [65, 66, 67], [65, 68], [65], [65, 69, 70], [65, 71], [62, 65, 72], [60, 62, 73], [60, 74], [75], [76], [76, 77], [76, 78], [79], [79], [79, 80, 81], [79, 82], [76, 79, 83]] (by kernel_rfl) (by kernel_rfl) ?_ ?_
                rotate_left
                · intro v14 hb
                  simp only [List.take_succ_cons, List.take_zero, List.drop_succ_cons, List.drop_zero]
                  refine over_ds (ds := [56, 57, 58, 59, 60, 61, 62, 63, 64, 65, 66, 67, 68, 69, 70, 71, 72, 73, 74, 75, 76, 77, 78, 79, 80, 81, 82, 83, 84]) (by kernel_rfl) ?_
                  refine over_some (ds1 := [56, 57, 58, 59, 60, 61, 62, 63, 64, 65, 66, 67, 68, 69, 70, 71, 72, 73, 74, 75, 76, 77, 78, 79, 80, 81, 82, 83, 84]) (ds2 := []) [(.int .i64 kk), (.slice A6 n6 c6), (.int .i64 (n6 : Int)), (.bool false), (.bool false), (.bool false), (.bool false), undef, undef, undef, undef, undef, undef, undef, undef, undef, undef, undef, (.bool false), (.bool false), (.bool false), (.bool false), (.bool true), (.bool true), (.slice A6 n6 c6), (.slice Av nv cv), (.bool true), (.bool false), (.bool false)] (by kernel_rfl) ?_
                  refine over_nil ?_
                  simp only [putAll, put_lit, List.set_cons_succ, List.set_cons_zero]
                  replace HV := Lib.hid (HV.out.next hb)
                  replace K14 := Lib.hid (K14.out.next hb)
                  replace HP := Lib.hid (HP.out.next hb)
                  replace BB := Lib.hid (thn BB.out hb)
                  clear hb
                  go_wp2
                  go_meet
                  case rel => exact ⟨rfl, BB⟩
                simp only [List.take_succ_cons, List.take_zero]
                refine ⟨?r11g0, ?r11g1, ?r11g2, ?r11g3, ?r11g4, ?r11g5, ?r11g6, ?r11g7, ?r11g8, ?r11g9, ?r11g10, ?r11g11, ?r11g12, ?r11g13, ?r11g14, ?r11g15, ?r11g16, ?r11g17, ?r11g18, ?r11g19, ?r11g20, ?r11g21, ?r11g22, ?r11g23, ?r11g24, ?r11g25, ?r11g26, ?r11g27, ?r11g28, trivial⟩
                case r11g0 => as_aux_lemma =>
                  intro w9 hb
                  refine over_nil ?_
                  go_wp2
                  first | exact post_of (by rfl) (by rfl) (Below.refl _ _) (by rfl) | exact rfl
                case r11g1 => as_aux_lemma =>
                  intro w9 hb
                  refine over_nil ?_
                  go_wp2
                  first | exact post_of (by rfl) (by rfl) (Below.refl _ _) (by rfl) | exact rfl
                case r11g2 => as_aux_lemma =>
                  intro w9 hb
                  refine over_some (ds1 := [57]) (ds2 := []) [(.slice A6 n6 c6)] (by kernel_rfl) ?_
                  refine over_nil ?_
                  simp only [putAll, put_lit, List.set_cons_succ, List.set_cons_zero]
                  go_wp2
                  first | exact post_of (by rfl) (by rfl) (Below.refl _ _) (by rfl) | exact rfl
                case r11g3 => as_aux_lemma =>
                  intro w9 hb
                  refine over_some (ds1 := [56, 58]) (ds2 := []) [(.int .i64 kk), (.int .i64 (n6 : Int))] (by kernel_rfl) ?_
                  refine over_nil ?_
                  simp only [putAll, put_lit, List.set_cons_succ, List.set_cons_zero]
                  go_wp2
                  exact post_of (by rfl) (by rfl) (Below.refl _ _) (by first | rfl | (show Value.bool _ = Value.bool _; rw [Value.bool.injEq]; first | exact decide_eq_true (by omega) | exact decide_eq_false (by omega) | assumption | (simp; omega)))
                case r11g4 => as_aux_lemma =>
                  intro w9 hb
                  refine over_some (ds1 := [59]) (ds2 := []) [(.bool false)] (by kernel_rfl) ?_
                  refine over_nil ?_
                  simp only [putAll, put_lit, List.set_cons_succ, List.set_cons_zero]
                  go_wp2
                  first | exact post_of (by rfl) (by rfl) (Below.refl _ _) (by rfl) | exact rfl
                case r11g5 => as_aux_lemma =>
                  intro w9 hb
                  refine over_some (ds1 := [60]) (ds2 := []) [(.bool false)] (by kernel_rfl) ?_
                  refine over_nil ?_
                  simp only [putAll, put_lit, List.set_cons_succ, List.set_cons_zero]
                  go_wp2
                  first | exact post_of (by rfl) (by rfl) (Below.refl _ _) (by rfl) | exact rfl
                case r11g6 => as_aux_lemma =>
                  intro w9 hb
                  refine over_some (ds1 := [60, 61]) (ds2 := []) [(.bool false), (.bool false)] (by kernel_rfl) ?_
                  refine over_nil ?_
                  simp only [putAll, put_lit, List.set_cons_succ, List.set_cons_zero]
                  go_wp2
                  first | exact post_of (by rfl) (by rfl) (Below.refl _ _) (by rfl) | exact rfl
                case r11g7 => as_aux_lemma =>
                  intro w9 hb
                  refine over_some (ds1 := [62]) (ds2 := []) [(.bool false)] (by kernel_rfl) ?_
                  refine over_nil ?_
                  simp only [putAll, put_lit, List.set_cons_succ, List.set_cons_zero]
                  exact post_skip rfl (by kernel_rfl) (by kernel_rfl) (by kernel_rfl) (by kernel_rfl)
                case r11g8 => as_aux_lemma =>
                  intro w9 hb
                  refine over_some (ds1 := [62, 63]) (ds2 := []) [(.bool false), undef] (by kernel_rfl) ?_
                  refine over_nil ?_
                  simp only [putAll, put_lit, List.set_cons_succ, List.set_cons_zero]
                  exact post_skip rfl (by kernel_rfl) (by kernel_rfl) (by kernel_rfl) (by kernel_rfl)
                case r11g9 => as_aux_lemma =>
                  intro w9 hb
                  refine over_some (ds1 := [62, 64]) (ds2 := []) [(.bool false), undef] (by kernel_rfl) ?_
                  refine over_nil ?_
                  simp only [putAll, put_lit, List.set_cons_succ, List.set_cons_zero]
                  exact post_skip rfl (by kernel_rfl) (by kernel_rfl) (by kernel_rfl) (by kernel_rfl)
                case r11g10 => as_aux_lemma =>
                  intro w9 hb
                  refine over_some (ds1 := [65]) (ds2 := []) [undef] (by kernel_rfl) ?_
                  refine over_nil ?_
                  simp only [putAll, put_lit, List.set_cons_succ, List.set_cons_zero]
                  exact post_skip rfl (by kernel_rfl) (by kernel_rfl) (by kernel_rfl) (by kernel_rfl)
                case r11g11 => as_aux_lemma =>
                  intro w9 hb
                  refine over_some (ds1 := [65]) (ds2 := []) [undef] (by kernel_rfl) ?_
                  refine over_nil ?_
                  simp only [putAll, put_lit, List.set_cons_succ, List.set_cons_zero]
                  exact post_skip rfl (by kernel_rfl) (by kernel_rfl) (by kernel_rfl) (by kernel_rfl)
                case r11g12 => as_aux_lemma =>
                  intro w9 hb
                  refine over_some (ds1 := [65, 66, 67]) (ds2 := []) [undef, undef, undef] (by kernel_rfl) ?_
                  refine over_nil ?_
                  simp only [putAll, put_lit, List.set_cons_succ, List.set_cons_zero]
                  exact post_skip rfl (by kernel_rfl) (by kernel_rfl) (by kernel_rfl) (by kernel_rfl)
                case r11g13 => as_aux_lemma =>
                  intro w9 hb
                  refine over_some (ds1 := [65, 68]) (ds2 := []) [undef, undef] (by kernel_rfl) ?_
                  refine over_nil ?_
                  simp only [putAll, put_lit, List.set_cons_succ, List.set_cons_zero]
                  exact post_skip rfl (by kernel_rfl) (by kernel_rfl) (by kernel_rfl) (by kernel_rfl)
                case r11g14 => as_aux_lemma =>
                  intro w9 hb
                  refine over_some (ds1 := [65]) (ds2 := []) [undef] (by kernel_rfl) ?_
                  refine over_nil ?_
                  simp only [putAll, put_lit, List.set_cons_succ, List.set_cons_zero]
                  exact post_skip rfl (by kernel_rfl) (by kernel_rfl) (by kernel_rfl) (by kernel_rfl)
                case r11g15 => as_aux_lemma =>
                  intro w9 hb
                  refine over_some (ds1 := [65, 69, 70]) (ds2 := []) [undef, undef, undef] (by kernel_rfl) ?_
                  refine over_nil ?_
                  simp only [putAll, put_lit, List.set_cons_succ, List.set_cons_zero]
                  exact post_skip rfl (by kernel_rfl) (by kernel_rfl) (by kernel_rfl) (by kernel_rfl)
                case r11g16 => as_aux_lemma =>
                  intro w9 hb
                  refine over_some (ds1 := [65, 71]) (ds2 := []) [undef, undef] (by kernel_rfl) ?_
                  refine over_nil ?_
                  simp only [putAll, put_lit, List.set_cons_succ, List.set_cons_zero]
                  exact post_skip rfl (by kernel_rfl) (by kernel_rfl) (by kernel_rfl) (by kernel_rfl)
                case r11g17 => as_aux_lemma =>
                  intro w9 hb
                  refine over_some (ds1 := [62, 65, 72]) (ds2 := []) [(.bool false), undef, undef] (by kernel_rfl) ?_
                  refine over_nil ?_
                  simp only [putAll, put_lit, List.set_cons_succ, List.set_cons_zero]
                  exact post_skip rfl (by kernel_rfl) (by kernel_rfl) (by kernel_rfl) (by kernel_rfl)
                case r11g18 => as_aux_lemma =>
                  intro w9 hb
                  refine over_some (ds1 := [60, 62, 73]) (ds2 := []) [(.bool false), (.bool false), undef] (by kernel_rfl) ?_
                  refine over_nil ?_
                  simp only [putAll, put_lit, List.set_cons_succ, List.set_cons_zero]
                  go_wp2
                  first | exact post_of (by rfl) (by rfl) (Below.refl _ _) (by rfl) | exact rfl
                case r11g19 => as_aux_lemma =>
                  intro w9 hb
                  refine over_some (ds1 := [60, 74]) (ds2 := []) [(.bool false), (.bool false)] (by kernel_rfl) ?_
                  refine over_nil ?_
                  simp only [putAll, put_lit, List.set_cons_succ, List.set_cons_zero]
                  go_wp2
                  first | exact post_of (by rfl) (by rfl) (Below.refl _ _) (by rfl) | exact rfl
                case r11g20 => as_aux_lemma =>
                  intro w9 hb
                  refine over_some (ds1 := [75]) (ds2 := []) [(.bool false)] (by kernel_rfl) ?_
                  refine over_nil ?_
                  simp only [putAll, put_lit, List.set_cons_succ, List.set_cons_zero]
                  go_wp2
                  first | exact post_of (by rfl) (by rfl) (Below.refl _ _) (by rfl) | exact rfl
                case r11g21 => as_aux_lemma =>
                  intro w9 hb
                  refine over_some (ds1 := [76]) (ds2 := []) [(.bool false)] (by kernel_rfl) ?_
                  refine over_nil ?_
                  simp only [putAll, put_lit, List.set_cons_succ, List.set_cons_zero]
                  go_wp2
                  first | exact post_of (by rfl) (by rfl) (Below.refl _ _) (by rfl) | exact rfl
                case r11g22 => as_aux_lemma =>
                  intro w9 hb
                  refine over_some (ds1 := [76, 77]) (ds2 := []) [(.bool false), (.bool false)] (by kernel_rfl) ?_
                  refine over_nil ?_
                  simp only [putAll, put_lit, List.set_cons_succ, List.set_cons_zero]
                  go_wp2
                  first | exact post_of (by rfl) (by rfl) (Below.refl _ _) (by rfl) | exact rfl
                case r11g23 => as_aux_lemma =>
                  intro w9 hb
                  refine over_some (ds1 := [76, 78]) (ds2 := []) [(.bool false), (.bool true)] (by kernel_rfl) ?_
                  refine over_nil ?_
                  simp only [putAll, put_lit, List.set_cons_succ, List.set_cons_zero]
                  go_wp2
                  first | exact post_of (by rfl) (by rfl) (Below.refl _ _) (by rfl) | exact rfl
                case r11g24 => as_aux_lemma =>
                  intro w9 hb
                  refine over_some (ds1 := [79]) (ds2 := []) [(.bool true)] (by kernel_rfl) ?_
                  refine over_nil ?_
                  simp only [putAll, put_lit, List.set_cons_succ, List.set_cons_zero]
                  go_wp2
                  first | exact post_of (by rfl) (by rfl) (Below.refl _ _) (by rfl) | exact rfl
                case r11g25 => as_aux_lemma =>
                  intro w9 hb
                  refine over_some (ds1 := [79]) (ds2 := []) [(.bool true)] (by kernel_rfl) ?_
                  refine over_nil ?_
                  simp only [putAll, put_lit, List.set_cons_succ, List.set_cons_zero]
                  go_wp2
                  first | exact post_of (by rfl) (by rfl) (Below.refl _ _) (by rfl) | exact rfl
                case r11g26 => as_aux_lemma =>
                  intro w9 hb
                  refine over_some (ds1 := [79, 80, 81]) (ds2 := []) [(.bool true), (.slice A6 n6 c6), (.slice Av nv cv)] (by kernel_rfl) ?_
                  refine over_nil ?_
                  simp only [putAll, put_lit, List.set_cons_succ, List.set_cons_zero]
                  go_wp2_with fail
                  have hc2 := descs_any A6 n6 c6 ps Av nv cv vs w9 (HP.out.next hb).sds (HV.out.next hb).sds
                  rw [show decide (ps.map (·.1) = vs.map (·.1)) = true from decide_eq_true (HK3.out HPT.out).1] at hc2
                  refine hc2.mono ?_
                  clear hc2
                  rintro e w8 ⟨rfl, b6⟩
                  go_wp2
                  exact post_of (by rfl) (by rfl) b6 (by rfl)
                case r11g27 => as_aux_lemma =>
                  intro w9 hb
                  refine over_some (ds1 := [79, 82]) (ds2 := []) [(.bool true), (.bool true)] (by kernel_rfl) ?_
                  refine over_nil ?_
                  simp only [putAll, put_lit, List.set_cons_succ, List.set_cons_zero]
                  go_wp2
                  first | exact post_of (by rfl) (by rfl) (Below.refl _ _) (by rfl) | exact rfl
                case r11g28 => as_aux_lemma =>
                  intro w9 hb
                  refine over_some (ds1 := [76, 79, 83]) (ds2 := []) [(.bool false), (.bool true), (.bool false)] (by kernel_rfl) ?_
                  refine over_nil ?_
                  simp only [putAll, put_lit, List.set_cons_succ, List.set_cons_zero]
                  go_wp2
                  first | exact post_of (by rfl) (by rfl) (Below.refl _ _) (by rfl) | exact rfl
            · as_aux_lemma =>
                have BB := Lib.hid (Below.refl w13.heap.size w13)
                obtain ⟨k, rfl, hk⟩ := HK2.out HPT.out
                have hkn : k < n6 := by omega
                obtain ⟨b6, o6, z6, rfl, hz6, hzm, HCZ⟩ := HP.out.sds.cells hkn
                have HZ6 : Hid (z6.1 = x.1) := by rw [List.getElem?_map, hz6] at hk; exact Option.some.inj hk
                have FZ6 := Lib.hid (HP.out.sds.fl z6 hzm)
                have F1Z : Hid (Fit1 z6.1) := by rw [HZ6.out]; exact HFX1.out
                clear hk hz6 hzm
                have k0 : (0 : Int) ≤ (k : Int) := by omega
                have k1 : (k : Int) < (n6 : Int) := by omega
                refine wp_region_typed 29 [(56, .val (.int .i64 (k : Int))), (57, .val (.slice (some ⟨b6, o6, none⟩) n6 c6)), (58, .val (.int .i64 (n6 : Int))), (59, .val (.bool false)), (60, .val (.bool false)), (61, .val (.bool true)), (62, .val (.bool true)), (63, .val (.int .i64 (k : Int))), (64, .val (.bool false)), (65, .val (.bool false)), (66, .val (.slice (some ⟨b6, o6, none⟩) n6 c6)), (67, .val (.int .i64 (k : Int))), (68, .val (.pointer (some ⟨b6, o6 + k * 4, none⟩))), (69, .val (.agg #[.int .u8 z6.1.1, .int .u16 z6.1.2.1, .int .u8 z6.1.2.2.1, .slice z6.2.1 z6.2.2.1 z6.2.2.2])), (70, .val (.agg #[.int .u8 x.1.1, .int .u16 x.1.2.1, .int .u8 x.1.2.2.1, .slice x.2.1 x.2.2.1 x.2.2.2])), (71, .val (.bool true)), (72, .val (.bool false)), (73, .val (.bool false)), (74, .val (.bool false)), (75, .val (.bool false)), (76, .val (.bool false)), (77, .val (.bool true)), (78, .val (.bool false)), (79, .val (.bool false)), (80, .val undef), (81, .val undef), (82, .val undef), (83, .val undef), (84, .val (.bool false))]
                  [[], [], [57], [56, 58], [59], [60], [60, 61], [62], [62, 63], [62, 64], [65], [65], [65, 66, 67], [65, 68], [65], [65, 69, 70], [65, 71], [62, 65, 72], [60, 62, 73], [60, 74], [75], [76], [76, 77], [76, 78], [79], [79], [79, 80, 81], [79, 82], [76, 79, 83]] (by kernel_rfl) (by kernel_rfl) ?_ ?_
                rotate_left
                · intro v14 hb
                  simp only [List.take_succ_cons, List.take_zero, List.drop_succ_cons, List.drop_zero]
                  refine over_ds (ds := [56, 57, 58, 59, 60, 61, 62, 63, 64, 65, 66, 67, 68, 69, 70, 71, 72, 73, 74, 75, 76, 77, 78, 79, 80, 81, 82, 83, 84]) (by kernel_rfl) ?_
                  refine over_some (ds1 := [56, 57, 58, 59, 60, 61, 62, 63, 64, 65, 66, 67, 68, 69, 70, 71, 72, 73, 74, 75, 76, 77, 78, 79, 80, 81, 82, 83, 84]) (ds2 := []) [(.int .i64 (k : Int)), (.slice (some ⟨b6, o6, none⟩) n6 c6), (.int .i64 (n6 : Int)), (.bool false), (.bool false), (.bool true), (.bool true), (.int .i64 (k : Int)), (.bool false), (.bool false), (.slice (some ⟨b6, o6, none⟩) n6 c6), (.int .i64 (k : Int)), (.pointer (some ⟨b6, o6 + k * 4, none⟩)), (.agg #[.int .u8 z6.1.1, .int .u16 z6.1.2.1, .int .u8 z6.1.2.2.1, .slice z6.2.1 z6.2.2.1 z6.2.2.2]), (.agg #[.int .u8 x.1.1, .int .u16 x.1.2.1, .int .u8 x.1.2.2.1, .slice x.2.1 x.2.2.1 x.2.2.2]), (.bool true), (.bool false), (.bool false), (.bool false), (.bool false), (.bool false), (.bool true), (.bool false), (.bool false), undef, undef, undef, undef, (.bool false)] (by kernel_rfl) ?_
                  refine over_nil ?_
                  simp only [putAll, put_lit, List.set_cons_succ, List.set_cons_zero]
                  replace HV := Lib.hid (HV.out.next hb)
                  replace K14 := Lib.hid (K14.out.next hb)
                  replace HP := Lib.hid (HP.out.next hb)
                  replace BB := Lib.hid (thn BB.out hb)
                  clear hb
                  go_wp2
                  go_meet
                  case rel => exact ⟨rfl, BB⟩
                simp only [List.take_succ_cons, List.take_zero]
                refine ⟨?r11g0, ?r11g1, ?r11g2, ?r11g3, ?r11g4, ?r11g5, ?r11g6, ?r11g7, ?r11g8, ?r11g9, ?r11g10, ?r11g11, ?r11g12, ?r11g13, ?r11g14, ?r11g15, ?r11g16, ?r11g17, ?r11g18, ?r11g19, ?r11g20, ?r11g21, ?r11g22, ?r11g23, ?r11g24, ?r11g25, ?r11g26, ?r11g27, ?r11g28, trivial⟩
                case r11g0 => as_aux_lemma =>
                  intro w9 hb
                  refine over_nil ?_
                  go_wp2
                  first | exact post_of (by rfl) (by rfl) (Below.refl _ _) (by rfl) | exact rfl
                case r11g1 => as_aux_lemma =>
                  intro w9 hb
                  refine over_nil ?_
                  go_wp2
                  first | exact post_of (by rfl) (by rfl) (Below.refl _ _) (by rfl) | exact rfl
                case r11g2 => as_aux_lemma =>
                  intro w9 hb
                  refine over_some (ds1 := [57]) (ds2 := []) [(.slice (some ⟨b6, o6, none⟩) n6 c6)] (by kernel_rfl) ?_
                  refine over_nil ?_
                  simp only [putAll, put_lit, List.set_cons_succ, List.set_cons_zero]
                  go_wp2
                  first | exact post_of (by rfl) (by rfl) (Below.refl _ _) (by rfl) | exact rfl
                case r11g3 => as_aux_lemma =>
                  intro w9 hb
                  refine over_some (ds1 := [56, 58]) (ds2 := []) [(.int .i64 (k : Int)), (.int .i64 (n6 : Int))] (by kernel_rfl) ?_
                  refine over_nil ?_
                  simp only [putAll, put_lit, List.set_cons_succ, List.set_cons_zero]
                  go_wp2
                  exact post_of (by rfl) (by rfl) (Below.refl _ _) (by first | rfl | (show Value.bool _ = Value.bool _; rw [Value.bool.injEq]; first | exact decide_eq_true (by omega) | exact decide_eq_false (by omega) | assumption | (simp; omega)))
                case r11g4 => as_aux_lemma =>
                  intro w9 hb
                  refine over_some (ds1 := [59]) (ds2 := []) [(.bool false)] (by kernel_rfl) ?_
                  refine over_nil ?_
                  simp only [putAll, put_lit, List.set_cons_succ, List.set_cons_zero]
                  go_wp2
                  first | exact post_of (by rfl) (by rfl) (Below.refl _ _) (by rfl) | exact rfl
                case r11g5 => as_aux_lemma =>
                  intro w9 hb
                  refine over_some (ds1 := [60]) (ds2 := []) [(.bool false)] (by kernel_rfl) ?_
                  refine over_nil ?_
                  simp only [putAll, put_lit, List.set_cons_succ, List.set_cons_zero]
                  go_wp2
                  first | exact post_of (by rfl) (by rfl) (Below.refl _ _) (by rfl) | exact rfl
                case r11g6 => as_aux_lemma =>
                  intro w9 hb
                  refine over_some (ds1 := [60, 61]) (ds2 := []) [(.bool false), (.bool true)] (by kernel_rfl) ?_
                  refine over_nil ?_
                  simp only [putAll, put_lit, List.set_cons_succ, List.set_cons_zero]
                  go_wp2
                  first | exact post_of (by rfl) (by rfl) (Below.refl _ _) (by rfl) | exact rfl
                case r11g7 => as_aux_lemma =>
                  intro w9 hb
                  refine over_some (ds1 := [62]) (ds2 := []) [(.bool true)] (by kernel_rfl) ?_
                  refine over_nil ?_
                  simp only [putAll, put_lit, List.set_cons_succ, List.set_cons_zero]
                  go_wp2
                  first | exact post_of (by rfl) (by rfl) (Below.refl _ _) (by rfl) | exact rfl
                case r11g8 => as_aux_lemma =>
                  intro w9 hb
                  refine over_some (ds1 := [62, 63]) (ds2 := []) [(.bool true), (.int .i64 (k : Int))] (by kernel_rfl) ?_
                  refine over_nil ?_
                  simp only [putAll, put_lit, List.set_cons_succ, List.set_cons_zero]
                  go_wp2
                  exact post_of (by rfl) (by rfl) (Below.refl _ _) (by first | rfl | (show Value.bool _ = Value.bool _; rw [Value.bool.injEq]; first | exact decide_eq_true (by omega) | exact decide_eq_false (by omega) | assumption | (simp; omega)))
                case r11g9 => as_aux_lemma =>
                  intro w9 hb
                  refine over_some (ds1 := [62, 64]) (ds2 := []) [(.bool true), (.bool false)] (by kernel_rfl) ?_
                  refine over_nil ?_
                  simp only [putAll, put_lit, List.set_cons_succ, List.set_cons_zero]
                  go_wp2
                  first | exact post_of (by rfl) (by rfl) (Below.refl _ _) (by rfl) | exact rfl
                case r11g10 => as_aux_lemma =>
                  intro w9 hb
                  refine over_some (ds1 := [65]) (ds2 := []) [(.bool false)] (by kernel_rfl) ?_
                  refine over_nil ?_
                  simp only [putAll, put_lit, List.set_cons_succ, List.set_cons_zero]
                  go_wp2
                  first | exact post_of (by rfl) (by rfl) (Below.refl _ _) (by rfl) | exact rfl
                case r11g11 => as_aux_lemma =>
                  intro w9 hb
                  refine over_some (ds1 := [65]) (ds2 := []) [(.bool false)] (by kernel_rfl) ?_
                  refine over_nil ?_
                  simp only [putAll, put_lit, List.set_cons_succ, List.set_cons_zero]
                  go_wp2
                  first | exact post_of (by rfl) (by rfl) (Below.refl _ _) (by rfl) | exact rfl
                case r11g12 => as_aux_lemma =>
                  intro w9 hb
                  refine over_some (ds1 := [65, 66, 67]) (ds2 := []) [(.bool false), (.slice (some ⟨b6, o6, none⟩) n6 c6), (.int .i64 (k : Int))] (by kernel_rfl) ?_
                  refine over_nil ?_
                  simp only [putAll, put_lit, List.set_cons_succ, List.set_cons_zero]
                  go_wp2
                  first | exact post_of (by rfl) (by rfl) (Below.refl _ _) (by rfl) | exact rfl
                case r11g13 => as_aux_lemma =>
                  intro w9 hb
                  refine over_some (ds1 := [65, 68]) (ds2 := []) [(.bool false), (.pointer (some ⟨b6, o6 + k * 4, none⟩))] (by kernel_rfl) ?_
                  refine over_nil ?_
                  simp only [putAll, put_lit, List.set_cons_succ, List.set_cons_zero]
                  obtain ⟨p0, q0, r0, s0⟩ := HCZ.out w9 hb
                  go_wp2
                  first | exact post_of (by rfl) (by rfl) (Below.refl _ _) (by rfl) | exact rfl
                case r11g14 => as_aux_lemma =>
                  intro w9 hb
                  refine over_some (ds1 := [65]) (ds2 := []) [(.bool false)] (by kernel_rfl) ?_
                  refine over_nil ?_
                  simp only [putAll, put_lit, List.set_cons_succ, List.set_cons_zero]
                  obtain ⟨p0, q0, r0, s0⟩ := (K14.out.next hb).cells
                  go_wp2
                  first | exact post_of (by rfl) (by rfl) (Below.refl _ _) (by rfl) | exact rfl
                case r11g15 => as_aux_lemma =>
                  intro w9 hb
                  refine over_some (ds1 := [65, 69, 70]) (ds2 := []) [(.bool false), (.agg #[.int .u8 z6.1.1, .int .u16 z6.1.2.1, .int .u8 z6.1.2.2.1, .slice z6.2.1 z6.2.2.1 z6.2.2.2]), (.agg #[.int .u8 x.1.1, .int .u16 x.1.2.1, .int .u8 x.1.2.2.1, .slice x.2.1 x.2.2.1 x.2.2.2])] (by kernel_rfl) ?_
                  refine over_nil ?_
                  simp only [putAll, put_lit, List.set_cons_succ, List.set_cons_zero]
                  go_wp2_with fail
                  have hc2 := HDD.out.same z6 x w9 (Sn.next FZ6.out hb) (Sn.next FLX.out hb) F1Z.out HFX1.out
                  rw [show decide (z6.1 = x.1) = true from decide_eq_true HZ6.out] at hc2
                  refine hc2.mono ?_
                  clear hc2
                  rintro e w8 ⟨rfl, b6⟩
                  go_wp2
                  exact post_of (by rfl) (by rfl) b6 (by rfl)
                case r11g16 => as_aux_lemma =>
                  intro w9 hb
                  refine over_some (ds1 := [65, 71]) (ds2 := []) [(.bool false), (.bool true)] (by kernel_rfl) ?_
                  refine over_nil ?_
                  simp only [putAll, put_lit, List.set_cons_succ, List.set_cons_zero]
                  go_wp2
                  first | exact post_of (by rfl) (by rfl) (Below.refl _ _) (by rfl) | exact rfl
                case r11g17 => as_aux_lemma =>
                  intro w9 hb
                  refine over_some (ds1 := [62, 65, 72]) (ds2 := []) [(.bool true), (.bool false), (.bool false)] (by kernel_rfl) ?_
                  refine over_nil ?_
                  simp only [putAll, put_lit, List.set_cons_succ, List.set_cons_zero]
                  go_wp2
                  first | exact post_of (by rfl) (by rfl) (Below.refl _ _) (by rfl) | exact rfl
                case r11g18 => as_aux_lemma =>
                  intro w9 hb
                  refine over_some (ds1 := [60, 62, 73]) (ds2 := []) [(.bool false), (.bool true), (.bool false)] (by kernel_rfl) ?_
                  refine over_nil ?_
                  simp only [putAll, put_lit, List.set_cons_succ, List.set_cons_zero]
                  go_wp2
                  first | exact post_of (by rfl) (by rfl) (Below.refl _ _) (by rfl) | exact rfl
                case r11g19 => as_aux_lemma =>
                  intro w9 hb
                  refine over_some (ds1 := [60, 74]) (ds2 := []) [(.bool false), (.bool false)] (by kernel_rfl) ?_
                  refine over_nil ?_
                  simp only [putAll, put_lit, List.set_cons_succ, List.set_cons_zero]
                  go_wp2
                  first | exact post_of (by rfl) (by rfl) (Below.refl _ _) (by rfl) | exact rfl
                case r11g20 => as_aux_lemma =>
                  intro w9 hb
                  refine over_some (ds1 := [75]) (ds2 := []) [(.bool false)] (by kernel_rfl) ?_
                  refine over_nil ?_
                  simp only [putAll, put_lit, List.set_cons_succ, List.set_cons_zero]
                  go_wp2
                  first | exact post_of (by rfl) (by rfl) (Below.refl _ _) (by rfl) | exact rfl
                case r11g21 => as_aux_lemma =>
                  intro w9 hb
                  refine over_some (ds1 := [76]) (ds2 := []) [(.bool false)] (by kernel_rfl) ?_
                  refine over_nil ?_
                  simp only [putAll, put_lit, List.set_cons_succ, List.set_cons_zero]
                  go_wp2
                  first | exact post_of (by rfl) (by rfl) (Below.refl _ _) (by rfl) | exact rfl
                case r11g22 => as_aux_lemma =>
                  intro w9 hb
                  refine over_some (ds1 := [76, 77]) (ds2 := []) [(.bool false), (.bool true)] (by kernel_rfl) ?_
                  refine over_nil ?_
                  simp only [putAll, put_lit, List.set_cons_succ, List.set_cons_zero]
                  go_wp2
                  first | exact post_of (by rfl) (by rfl) (Below.refl _ _) (by rfl) | exact rfl
                case r11g23 => as_aux_lemma =>
                  intro w9 hb
                  refine over_some (ds1 := [76, 78]) (ds2 := []) [(.bool false), (.bool false)] (by kernel_rfl) ?_
                  refine over_nil ?_
                  simp only [putAll, put_lit, List.set_cons_succ, List.set_cons_zero]
                  go_wp2
                  first | exact post_of (by rfl) (by rfl) (Below.refl _ _) (by rfl) | exact rfl
                case r11g24 => as_aux_lemma =>
                  intro w9 hb
                  refine over_some (ds1 := [79]) (ds2 := []) [(.bool false)] (by kernel_rfl) ?_
                  refine over_nil ?_
                  simp only [putAll, put_lit, List.set_cons_succ, List.set_cons_zero]
                  exact post_skip rfl (by kernel_rfl) (by kernel_rfl) (by kernel_rfl) (by kernel_rfl)
                case r11g25 => as_aux_lemma =>
                  intro w9 hb
                  refine over_some (ds1 := [79]) (ds2 := []) [(.bool false)] (by kernel_rfl) ?_
                  refine over_nil ?_
                  simp only [putAll, put_lit, List.set_cons_succ, List.set_cons_zero]
                  exact post_skip rfl (by kernel_rfl) (by kernel_rfl) (by kernel_rfl) (by kernel_rfl)
                case r11g26 => as_aux_lemma =>
                  intro w9 hb
                  refine over_some (ds1 := [79, 80, 81]) (ds2 := []) [(.bool false), undef, undef] (by kernel_rfl) ?_
                  refine over_nil ?_
                  simp only [putAll, put_lit, List.set_cons_succ, List.set_cons_zero]
                  exact post_skip rfl (by kernel_rfl) (by kernel_rfl) (by kernel_rfl) (by kernel_rfl)
                case r11g27 => as_aux_lemma =>
                  intro w9 hb
                  refine over_some (ds1 := [79, 82]) (ds2 := []) [(.bool false), undef] (by kernel_rfl) ?_
                  refine over_nil ?_
                  simp only [putAll, put_lit, List.set_cons_succ, List.set_cons_zero]
                  exact post_skip rfl (by kernel_rfl) (by kernel_rfl) (by kernel_rfl) (by kernel_rfl)
                case r11g28 => as_aux_lemma =>
                  intro w9 hb
                  refine over_some (ds1 := [76, 79, 83]) (ds2 := []) [(.bool false), (.bool false), undef] (by kernel_rfl) ?_
                  refine over_nil ?_
                  simp only [putAll, put_lit, List.set_cons_succ, List.set_cons_zero]
                  go_wp2
                  first | exact post_of (by rfl) (by rfl) (Below.refl _ _) (by rfl) | exact rfl
          case rest =>
            obtain ⟨rfl, hbc⟩ := hcut
            replace HV := Lib.hid (HV.out.next hbc.out)
            replace K14 := Lib.hid (K14.out.next hbc.out)
            replace HP := Lib.hid (HP.out.next hbc.out)
            replace B := Lib.hid (thn B.out hbc.out)
            replace FLX : Hid (Fl _ x) := Sn.next FLX.out hbc.out
            clear hbc
            obtain ⟨x0, x1, x2, x3⟩ := K14.out.cells
            go_upto_region 13 with fail
            go_cut [107] from 38 to 191 (fun v w' => v = .bool false ∧ w' = wc)
            case first =>
              as_aux_lemma =>
                cases pt
                rotate_left
                · go_wp2; all_goals (go_meet; case rel => exact ⟨by first | rfl | (simp; done) | (simp; omega) | (simp_all; done), rfl⟩)
                · obtain ⟨_, hkb, hkc⟩ := HK3.out HPT.out
                  have hkd := Lib.hid hkb
                  clear hkb hkc
                  by_cases e1 : x.1.1 = self
                  · have e1b : (x.1.1 == self) = true := by simpa using e1
                    clear e1
                    go_wp2; all_goals (go_meet; case rel => exact ⟨by first | rfl | (simp; done) | (simp; omega) | (simp_all; done), rfl⟩)
                  · have e1b : (x.1.1 == self) = false := by simpa using e1
                    have E1 := Lib.hid e1
                    clear e1
                    by_cases e2 : 0 < x.1.2.1
                    rotate_left
                    · go_wp2; all_goals (go_meet; case rel => exact ⟨by first | rfl | (simp; done) | (simp; omega) | (simp_all; done), rfl⟩)
                    · by_cases e3 : kk < 0
                      · have e4 := hkd.out E1.out e2 e3
                        rw [List.length_map, ← HLV.out] at e4
                        have e5 : ¬ ((nv : Int) < rm) := by omega
                        go_wp2; all_goals (go_meet; case rel => exact ⟨by first | rfl | (simp; done) | (simp; omega) | (simp_all; done), rfl⟩)
                      · go_wp2; all_goals (go_meet; case rel => exact ⟨by first | rfl | (simp; done) | (simp; omega) | (simp_all; done), rfl⟩)
            case rest =>
              obtain ⟨rfl, rfl⟩ := hcut
              go_upto_region 15 with fail
              clear x0 x1 x2 x3
              go_cut [143] from 38 to 191 (fun v w' => v = .bool false ∧ Hid (Below wc.heap.size wc w'))
              case first =>
                as_aux_lemma =>
                  cases pt
                  rotate_left
                  · as_aux_lemma =>
                      have BB := Lib.hid (Below.refl wc.heap.size wc)
                      refine wp_region_typed 35 [(108, .val (.bool true)), (109, .val (.bool false)), (110, .val (.bool false)), (111, .val undef), (112, .val undef), (113, .val (.bool false)), (114, .val (.bool false)), (115, .val undef), (116, .val undef), (117, .val undef), (118, .val undef), (119, .val undef), (120, .val undef), (121, .val undef), (122, .val undef), (123, .val undef), (124, .val undef), (125, .val undef), (126, .val undef), (127, .val undef), (128, .val undef), (129, .val undef), (130, .val undef), (131, .val undef), (132, .val undef), (133, .val undef), (134, .val undef), (135, .val undef), (136, .val undef), (137, .val undef), (138, .val undef), (139, .val undef), (140, .val undef), (141, .val undef), (142, .val undef)]
                        [[], [108], [109], [110], [110, 111], [110, 112], [113], [114], [114], [114, 115, 116], [114, 117], [114, 118], [114], [114, 120], [114, 119, 121], [114, 122], [123], [123], [123, 124, 125], [123, 126], [123, 127], [123], [123, 129], [123, 128, 130], [123, 131], [132], [132], [132, 133, 134], [132, 135], [132, 136], [132], [132, 138], [132, 137, 139], [123, 132, 140], [114, 123, 141]] (by kernel_rfl) (by kernel_rfl) ?_ ?_
                      rotate_left
                      · intro v61 hb
                        simp only [List.take_succ_cons, List.take_zero, List.drop_succ_cons, List.drop_zero]
                        refine over_ds (ds := [108, 109, 110, 111, 112, 113, 114, 115, 116, 117, 118, 119, 120, 121, 122, 123, 124, 125, 126, 127, 128, 129, 130, 131, 132, 133, 134, 135, 136, 137, 138, 139, 140, 141, 142]) (by kernel_rfl) ?_
                        refine over_some (ds1 := [108, 109, 110, 111, 112, 113, 114, 115, 116, 117, 118, 119, 120, 121, 122, 123, 124, 125, 126, 127, 128, 129, 130, 131, 132, 133, 134, 135, 136, 137, 138, 139, 140, 141, 142]) (ds2 := []) [(.bool true), (.bool false), (.bool false), undef, undef, (.bool false), (.bool false), undef, undef, undef, undef, undef, undef, undef, undef, undef, undef, undef, undef, undef, undef, undef, undef, undef, undef, undef, undef, undef, undef, undef, undef, undef, undef, undef, undef] (by kernel_rfl) ?_
                        refine over_nil ?_
                        simp only [putAll, put_lit, List.set_cons_succ, List.set_cons_zero]
                        replace HV := Lib.hid (HV.out.next hb)
                        replace K14 := Lib.hid (K14.out.next hb)
                        replace HP := Lib.hid (HP.out.next hb)
                        replace BB := Lib.hid (thn BB.out hb)
                        clear hb
                        go_wp2
                        go_meet
                        case rel => exact ⟨rfl, BB⟩
                      simp only [List.take_succ_cons, List.take_zero]
                      refine ⟨?r15g0, ?r15g1, ?r15g2, ?r15g3, ?r15g4, ?r15g5, ?r15g6, ?r15g7, ?r15g8, ?r15g9, ?r15g10, ?r15g11, ?r15g12, ?r15g13, ?r15g14, ?r15g15, ?r15g16, ?r15g17, ?r15g18, ?r15g19, ?r15g20, ?r15g21, ?r15g22, ?r15g23, ?r15g24, ?r15g25, ?r15g26, ?r15g27, ?r15g28, ?r15g29, ?r15g30, ?r15g31, ?r15g32, ?r15g33, ?r15g34, trivial⟩
                      case r15g0 => as_aux_lemma =>
                        intro w9 hb
                        refine over_nil ?_
                        go_wp2
                        first | exact post_of (by rfl) (by rfl) (Below.refl _ _) (by rfl) | exact rfl
                      case r15g1 => as_aux_lemma =>
                        intro w9 hb
                        refine over_some (ds1 := [108]) (ds2 := []) [(.bool true)] (by kernel_rfl) ?_
                        refine over_nil ?_
                        simp only [putAll, put_lit, List.set_cons_succ, List.set_cons_zero]
                        go_wp2
                        first | exact post_of (by rfl) (by rfl) (Below.refl _ _) (by rfl) | exact rfl
                      case r15g2 => as_aux_lemma =>
                        intro w9 hb
                        refine over_some (ds1 := [109]) (ds2 := []) [(.bool false)] (by kernel_rfl) ?_
                        refine over_nil ?_
                        simp only [putAll, put_lit, List.set_cons_succ, List.set_cons_zero]
                        go_wp2
                        first | exact post_of (by rfl) (by rfl) (Below.refl _ _) (by rfl) | exact rfl
                      case r15g3 => as_aux_lemma =>
                        intro w9 hb
                        refine over_some (ds1 := [110]) (ds2 := []) [(.bool false)] (by kernel_rfl) ?_
                        refine over_nil ?_
                        simp only [putAll, put_lit, List.set_cons_succ, List.set_cons_zero]
                        exact post_skip rfl (by kernel_rfl) (by kernel_rfl) (by kernel_rfl) (by kernel_rfl)
                      case r15g4 => as_aux_lemma =>
                        intro w9 hb
                        refine over_some (ds1 := [110, 111]) (ds2 := []) [(.bool false), undef] (by kernel_rfl) ?_
                        refine over_nil ?_
                        simp only [putAll, put_lit, List.set_cons_succ, List.set_cons_zero]
                        exact post_skip rfl (by kernel_rfl) (by kernel_rfl) (by kernel_rfl) (by kernel_rfl)
                      case r15g5 => as_aux_lemma =>
                        intro w9 hb
                        refine over_some (ds1 := [110, 112]) (ds2 := []) [(.bool false), undef] (by kernel_rfl) ?_
                        refine over_nil ?_
                        simp only [putAll, put_lit, List.set_cons_succ, List.set_cons_zero]
                        go_wp2
                        first | exact post_of (by rfl) (by rfl) (Below.refl _ _) (by rfl) | exact rfl
                      case r15g6 => as_aux_lemma =>
                        intro w9 hb
                        refine over_some (ds1 := [113]) (ds2 := []) [(.bool false)] (by kernel_rfl) ?_
                        refine over_nil ?_
                        simp only [putAll, put_lit, List.set_cons_succ, List.set_cons_zero]
                        go_wp2
                        first | exact post_of (by rfl) (by rfl) (Below.refl _ _) (by rfl) | exact rfl
                      case r15g7 => as_aux_lemma =>
                        intro w9 hb
                        refine over_some (ds1 := [114]) (ds2 := []) [(.bool false)] (by kernel_rfl) ?_
                        refine over_nil ?_
                        simp only [putAll, put_lit, List.set_cons_succ, List.set_cons_zero]
                        exact post_skip rfl (by kernel_rfl) (by kernel_rfl) (by kernel_rfl) (by kernel_rfl)
                      case r15g8 => as_aux_lemma =>
                        intro w9 hb
                        refine over_some (ds1 := [114]) (ds2 := []) [(.bool false)] (by kernel_rfl) ?_
                        refine over_nil ?_
                        simp only [putAll, put_lit, List.set_cons_succ, List.set_cons_zero]
                        exact post_skip rfl (by kernel_rfl) (by kernel_rfl) (by kernel_rfl) (by kernel_rfl)
                      case r15g9 => as_aux_lemma =>
                        intro w9 hb
                        refine over_some (ds1 := [114, 115, 116]) (ds2 := []) [(.bool false), undef, undef] (by kernel_rfl) ?_
                        refine over_nil ?_
                        simp only [putAll, put_lit, List.set_cons_succ, List.set_cons_zero]
                        exact post_skip rfl (by kernel_rfl) (by kernel_rfl) (by kernel_rfl) (by kernel_rfl)
                      case r15g10 => as_aux_lemma =>
                        intro w9 hb
                        refine over_some (ds1 := [114, 117]) (ds2 := []) [(.bool false), undef] (by kernel_rfl) ?_
                        refine over_nil ?_
                        simp only [putAll, put_lit, List.set_cons_succ, List.set_cons_zero]
                        exact post_skip rfl (by kernel_rfl) (by kernel_rfl) (by kernel_rfl) (by kernel_rfl)
                      case r15g11 => as_aux_lemma =>
                        intro w9 hb
                        refine over_some (ds1 := [114, 118]) (ds2 := []) [(.bool false), undef] (by kernel_rfl) ?_
                        refine over_nil ?_
                        simp only [putAll, put_lit, List.set_cons_succ, List.set_cons_zero]
                        exact post_skip rfl (by kernel_rfl) (by kernel_rfl) (by kernel_rfl) (by kernel_rfl)
                      case r15g12 => as_aux_lemma =>
                        intro w9 hb
                        refine over_some (ds1 := [114]) (ds2 := []) [(.bool false)] (by kernel_rfl) ?_
                        refine over_nil ?_
                        simp only [putAll, put_lit, List.set_cons_succ, List.set_cons_zero]
                        exact post_skip rfl (by kernel_rfl) (by kernel_rfl) (by kernel_rfl) (by kernel_rfl)
                      case r15g13 => as_aux_lemma =>
                        intro w9 hb
                        refine over_some (ds1 := [114, 120]) (ds2 := []) [(.bool false), undef] (by kernel_rfl) ?_
                        refine over_nil ?_
                        simp only [putAll, put_lit, List.set_cons_succ, List.set_cons_zero]
                        exact post_skip rfl (by kernel_rfl) (by kernel_rfl) (by kernel_rfl) (by kernel_rfl)
                      case r15g14 => as_aux_lemma =>
                        intro w9 hb
                        refine over_some (ds1 := [114, 119, 121]) (ds2 := []) [(.bool false), undef, undef] (by kernel_rfl) ?_
                        refine over_nil ?_
                        simp only [putAll, put_lit, List.set_cons_succ, List.set_cons_zero]
                        exact post_skip rfl (by kernel_rfl) (by kernel_rfl) (by kernel_rfl) (by kernel_rfl)
                      case r15g15 => as_aux_lemma =>
                        intro w9 hb
                        refine over_some (ds1 := [114, 122]) (ds2 := []) [(.bool false), undef] (by kernel_rfl) ?_
                        refine over_nil ?_
                        simp only [putAll, put_lit, List.set_cons_succ, List.set_cons_zero]
                        exact post_skip rfl (by kernel_rfl) (by kernel_rfl) (by kernel_rfl) (by kernel_rfl)
                      case r15g16 => as_aux_lemma =>
                        intro w9 hb
                        refine over_some (ds1 := [123]) (ds2 := []) [undef] (by kernel_rfl) ?_
                        refine over_nil ?_
                        simp only [putAll, put_lit, List.set_cons_succ, List.set_cons_zero]
                        exact post_skip rfl (by kernel_rfl) (by kernel_rfl) (by kernel_rfl) (by kernel_rfl)
                      case r15g17 => as_aux_lemma =>
                        intro w9 hb
                        refine over_some (ds1 := [123]) (ds2 := []) [undef] (by kernel_rfl) ?_
                        refine over_nil ?_
                        simp only [putAll, put_lit, List.set_cons_succ, List.set_cons_zero]
                        exact post_skip rfl (by kernel_rfl) (by kernel_rfl) (by kernel_rfl) (by kernel_rfl)
                      case r15g18 => as_aux_lemma =>
                        intro w9 hb
                        refine over_some (ds1 := [123, 124, 125]) (ds2 := []) [undef, undef, undef] (by kernel_rfl) ?_
                        refine over_nil ?_
                        simp only [putAll, put_lit, List.set_cons_succ, List.set_cons_zero]
                        exact post_skip rfl (by kernel_rfl) (by kernel_rfl) (by kernel_rfl) (by kernel_rfl)
                      case r15g19 => as_aux_lemma =>
                        intro w9 hb
                        refine over_some (ds1 := [123, 126]) (ds2 := []) [undef, undef] (by kernel_rfl) ?_
                        refine over_nil ?_
                        simp only [putAll, put_lit, List.set_cons_succ, List.set_cons_zero]
                        exact post_skip rfl (by kernel_rfl) (by kernel_rfl) (by kernel_rfl) (by kernel_rfl)
                      case r15g20 => as_aux_lemma =>
                        intro w9 hb
                        refine over_some (ds1 := [123, 127]) (ds2 := []) [undef, undef] (by kernel_rfl) ?_
                        refine over_nil ?_
                        simp only [putAll, put_lit, List.set_cons_succ, List.set_cons_zero]
                        exact post_skip rfl (by kernel_rfl) (by kernel_rfl) (by kernel_rfl) (by kernel_rfl)
                      case r15g21 => as_aux_lemma =>
                        intro w9 hb
                        refine over_some (ds1 := [123]) (ds2 := []) [undef] (by kernel_rfl) ?_
                        refine over_nil ?_
                        simp only [putAll, put_lit, List.set_cons_succ, List.set_cons_zero]
                        exact post_skip rfl (by kernel_rfl) (by kernel_rfl) (by kernel_rfl) (by kernel_rfl)
                      case r15g22 => as_aux_lemma =>
                        intro w9 hb
                        refine over_some (ds1 := [123, 129]) (ds2 := []) [undef, undef] (by kernel_rfl) ?_
                        refine over_nil ?_
                        simp only [putAll, put_lit, List.set_cons_succ, List.set_cons_zero]
                        exact post_skip rfl (by kernel_rfl) (by kernel_rfl) (by kernel_rfl) (by kernel_rfl)
                      case r15g23 => as_aux_lemma =>
                        intro w9 hb
                        refine over_some (ds1 := [123, 128, 130]) (ds2 := []) [undef, undef, undef] (by kernel_rfl) ?_
                        refine over_nil ?_
                        simp only [putAll, put_lit, List.set_cons_succ, List.set_cons_zero]
                        exact post_skip rfl (by kernel_rfl) (by kernel_rfl) (by kernel_rfl) (by kernel_rfl)
                      case r15g24 => as_aux_lemma =>
                        intro w9 hb
                        refine over_some (ds1 := [123, 131]) (ds2 := []) [undef, undef] (by kernel_rfl) ?_
                        refine over_nil ?_
                        simp only [putAll, put_lit, List.set_cons_succ, List.set_cons_zero]
                        exact post_skip rfl (by kernel_rfl) (by kernel_rfl) (by kernel_rfl) (by kernel_rfl)
                      case r15g25 => as_aux_lemma =>
                        intro w9 hb
                        refine over_some (ds1 := [132]) (ds2 := []) [undef] (by kernel_rfl) ?_
                        refine over_nil ?_
                        simp only [putAll, put_lit, List.set_cons_succ, List.set_cons_zero]
                        exact post_skip rfl (by kernel_rfl) (by kernel_rfl) (by kernel_rfl) (by kernel_rfl)
                      case r15g26 => as_aux_lemma =>
                        intro w9 hb
                        refine over_some (ds1 := [132]) (ds2 := []) [undef] (by kernel_rfl) ?_
                        refine over_nil ?_
                        simp only [putAll, put_lit, List.set_cons_succ, List.set_cons_zero]
                        exact post_skip rfl (by kernel_rfl) (by kernel_rfl) (by kernel_rfl) (by kernel_rfl)
                      case r15g27 => as_aux_lemma =>
                        intro w9 hb
                        refine over_some (ds1 := [132, 133, 134]) (ds2 := []) [undef, undef, undef] (by kernel_rfl) ?_
                        refine over_nil ?_
                        simp only [putAll, put_lit, List.set_cons_succ, List.set_cons_zero]
                        exact post_skip rfl (by kernel_rfl) (by kernel_rfl) (by kernel_rfl) (by kernel_rfl)
                      case r15g28 => as_aux_lemma =>
                        intro w9 hb
                        refine over_some (ds1 := [132, 135]) (ds2 := []) [undef, undef] (by kernel_rfl) ?_
                        refine over_nil ?_
                        simp only [putAll, put_lit, List.set_cons_succ, List.set_cons_zero]
                        exact post_skip rfl (by kernel_rfl) (by kernel_rfl) (by kernel_rfl) (by kernel_rfl)
                      case r15g29 => as_aux_lemma =>
                        intro w9 hb
                        refine over_some (ds1 := [132, 136]) (ds2 := []) [undef, undef] (by kernel_rfl) ?_
                        refine over_nil ?_
                        simp only [putAll, put_lit, List.set_cons_succ, List.set_cons_zero]
                        exact post_skip rfl (by kernel_rfl) (by kernel_rfl) (by kernel_rfl) (by kernel_rfl)
                      case r15g30 => as_aux_lemma =>
                        intro w9 hb
                        refine over_some (ds1 := [132]) (ds2 := []) [undef] (by kernel_rfl) ?_
                        refine over_nil ?_
                        simp only [putAll, put_lit, List.set_cons_succ, List.set_cons_zero]
                        exact post_skip rfl (by kernel_rfl) (by kernel_rfl) (by kernel_rfl) (by kernel_rfl)
                      case r15g31 => as_aux_lemma =>
                        intro w9 hb
                        refine over_some (ds1 := [132, 138]) (ds2 := []) [undef, undef] (by kernel_rfl) ?_
                        refine over_nil ?_
                        simp only [putAll, put_lit, List.set_cons_succ, List.set_cons_zero]
                        exact post_skip rfl (by kernel_rfl) (by kernel_rfl) (by kernel_rfl) (by kernel_rfl)
                      case r15g32 => as_aux_lemma =>
                        intro w9 hb
                        refine over_some (ds1 := [132, 137, 139]) (ds2 := []) [undef, undef, undef] (by kernel_rfl) ?_
                        refine over_nil ?_
                        simp only [putAll, put_lit, List.set_cons_succ, List.set_cons_zero]
                        exact post_skip rfl (by kernel_rfl) (by kernel_rfl) (by kernel_rfl) (by kernel_rfl)
                      case r15g33 => as_aux_lemma =>
                        intro w9 hb
                        refine over_some (ds1 := [123, 132, 140]) (ds2 := []) [undef, undef, undef] (by kernel_rfl) ?_
                        refine over_nil ?_
                        simp only [putAll, put_lit, List.set_cons_succ, List.set_cons_zero]
                        exact post_skip rfl (by kernel_rfl) (by kernel_rfl) (by kernel_rfl) (by kernel_rfl)
                      case r15g34 => as_aux_lemma =>
                        intro w9 hb
                        refine over_some (ds1 := [114, 123, 141]) (ds2 := []) [(.bool false), undef, undef] (by kernel_rfl) ?_
                        refine over_nil ?_
                        simp only [putAll, put_lit, List.set_cons_succ, List.set_cons_zero]
                        exact post_skip rfl (by kernel_rfl) (by kernel_rfl) (by kernel_rfl) (by kernel_rfl)
                  · by_cases e1 : kk < 0
                    · as_aux_lemma =>
                        have BB := Lib.hid (Below.refl wc.heap.size wc)
                        refine wp_region_typed 35 [(108, .val (.bool false)), (109, .val (.bool true)), (110, .val (.bool true)), (111, .val (.int .i64 kk)), (112, .val (.bool false)), (113, .val (.bool false)), (114, .val (.bool false)), (115, .val undef), (116, .val undef), (117, .val undef), (118, .val undef), (119, .val undef), (120, .val undef), (121, .val undef), (122, .val undef), (123, .val undef), (124, .val undef), (125, .val undef), (126, .val undef), (127, .val undef), (128, .val undef), (129, .val undef), (130, .val undef), (131, .val undef), (132, .val undef), (133, .val undef), (134, .val undef), (135, .val undef), (136, .val undef), (137, .val undef), (138, .val undef), (139, .val undef), (140, .val undef), (141, .val undef), (142, .val undef)]
                          [[], [108], [109], [110], [110, 111], [110, 112], [113], [114], [114], [114, 115, 116], [114, 117], [114, 118], [114], [114, 120], [114, 119, 121], [114, 122], [123], [123], [123, 124, 125], [123, 126], [123, 127], [123], [123, 129], [123, 128, 130], [123, 131], [132], [132], [132, 133, 134], [132, 135], [132, 136], [132], [132, 138], [132, 137, 139], [123, 132, 140], [114, 123, 141]] (by kernel_rfl) (by kernel_rfl) ?_ ?_
                        rotate_left
                        · intro v61 hb
                          simp only [List.take_succ_cons, List.take_zero, List.drop_succ_cons, List.drop_zero]
                          refine over_ds (ds := [108, 109, 110, 111, 112, 113, 114, 115, 116, 117, 118, 119, 120, 121, 122, 123, 124, 125, 126, 127, 128, 129, 130, 131, 132, 133, 134, 135, 136, 137, 138, 139, 140, 141, 142]) (by kernel_rfl) ?_
                          refine over_some (ds1 := [108, 109, 110, 111, 112, 113, 114, 115, 116, 117, 118, 119, 120, 121, 122, 123, 124, 125, 126, 127, 128, 129, 130, 131, 132, 133, 134, 135, 136, 137, 138, 139, 140, 141, 142]) (ds2 := []) [(.bool false), (.bool true), (.bool true), (.int .i64 kk), (.bool false), (.bool false), (.bool false), undef, undef, undef, undef, undef, undef, undef, undef, undef, undef, undef, undef, undef, undef, undef, undef, undef, undef, undef, undef, undef, undef, undef, undef, undef, undef, undef, undef] (by kernel_rfl) ?_
                          refine over_nil ?_
                          simp only [putAll, put_lit, List.set_cons_succ, List.set_cons_zero]
                          replace HV := Lib.hid (HV.out.next hb)
                          replace K14 := Lib.hid (K14.out.next hb)
                          replace HP := Lib.hid (HP.out.next hb)
                          replace BB := Lib.hid (thn BB.out hb)
                          clear hb
                          go_wp2
                          go_meet
                          case rel => exact ⟨rfl, BB⟩
                        simp only [List.take_succ_cons, List.take_zero]
                        refine ⟨?r15g0, ?r15g1, ?r15g2, ?r15g3, ?r15g4, ?r15g5, ?r15g6, ?r15g7, ?r15g8, ?r15g9, ?r15g10, ?r15g11, ?r15g12, ?r15g13, ?r15g14, ?r15g15, ?r15g16, ?r15g17, ?r15g18, ?r15g19, ?r15g20, ?r15g21, ?r15g22, ?r15g23, ?r15g24, ?r15g25, ?r15g26, ?r15g27, ?r15g28, ?r15g29, ?r15g30, ?r15g31, ?r15g32, ?r15g33, ?r15g34, trivial⟩
                        case r15g0 => as_aux_lemma =>
                          intro w9 hb
                          refine over_nil ?_
                          go_wp2
                          first | exact post_of (by rfl) (by rfl) (Below.refl _ _) (by rfl) | exact rfl
                        case r15g1 => as_aux_lemma =>
                          intro w9 hb
                          refine over_some (ds1 := [108]) (ds2 := []) [(.bool false)] (by kernel_rfl) ?_
                          refine over_nil ?_
                          simp only [putAll, put_lit, List.set_cons_succ, List.set_cons_zero]
                          go_wp2
                          first | exact post_of (by rfl) (by rfl) (Below.refl _ _) (by rfl) | exact rfl
                        case r15g2 => as_aux_lemma =>
                          intro w9 hb
                          refine over_some (ds1 := [109]) (ds2 := []) [(.bool true)] (by kernel_rfl) ?_
                          refine over_nil ?_
                          simp only [putAll, put_lit, List.set_cons_succ, List.set_cons_zero]
                          go_wp2
                          first | exact post_of (by rfl) (by rfl) (Below.refl _ _) (by rfl) | exact rfl
                        case r15g3 => as_aux_lemma =>
                          intro w9 hb
                          refine over_some (ds1 := [110]) (ds2 := []) [(.bool true)] (by kernel_rfl) ?_
                          refine over_nil ?_
                          simp only [putAll, put_lit, List.set_cons_succ, List.set_cons_zero]
                          go_wp2
                          first | exact post_of (by rfl) (by rfl) (Below.refl _ _) (by rfl) | exact rfl
                        case r15g4 => as_aux_lemma =>
                          intro w9 hb
                          refine over_some (ds1 := [110, 111]) (ds2 := []) [(.bool true), (.int .i64 kk)] (by kernel_rfl) ?_
                          refine over_nil ?_
                          simp only [putAll, put_lit, List.set_cons_succ, List.set_cons_zero]
                          go_wp2
                          exact post_of (by rfl) (by rfl) (Below.refl _ _) (by first | rfl | (show Value.bool _ = Value.bool _; rw [Value.bool.injEq]; first | exact decide_eq_true (by omega) | exact decide_eq_false (by omega) | assumption | (simp; omega)))
                        case r15g5 => as_aux_lemma =>
                          intro w9 hb
                          refine over_some (ds1 := [110, 112]) (ds2 := []) [(.bool true), (.bool false)] (by kernel_rfl) ?_
                          refine over_nil ?_
                          simp only [putAll, put_lit, List.set_cons_succ, List.set_cons_zero]
                          go_wp2
                          first | exact post_of (by rfl) (by rfl) (Below.refl _ _) (by rfl) | exact rfl
                        case r15g6 => as_aux_lemma =>
                          intro w9 hb
                          refine over_some (ds1 := [113]) (ds2 := []) [(.bool false)] (by kernel_rfl) ?_
                          refine over_nil ?_
                          simp only [putAll, put_lit, List.set_cons_succ, List.set_cons_zero]
                          go_wp2
                          first | exact post_of (by rfl) (by rfl) (Below.refl _ _) (by rfl) | exact rfl
                        case r15g7 => as_aux_lemma =>
                          intro w9 hb
                          refine over_some (ds1 := [114]) (ds2 := []) [(.bool false)] (by kernel_rfl) ?_
                          refine over_nil ?_
                          simp only [putAll, put_lit, List.set_cons_succ, List.set_cons_zero]
                          exact post_skip rfl (by kernel_rfl) (by kernel_rfl) (by kernel_rfl) (by kernel_rfl)
                        case r15g8 => as_aux_lemma =>
                          intro w9 hb
                          refine over_some (ds1 := [114]) (ds2 := []) [(.bool false)] (by kernel_rfl) ?_
                          refine over_nil ?_
                          simp only [putAll, put_lit, List.set_cons_succ, List.set_cons_zero]
                          exact post_skip rfl (by kernel_rfl) (by kernel_rfl) (by kernel_rfl) (by kernel_rfl)
                        case r15g9 => as_aux_lemma =>
                          intro w9 hb
                          refine over_some (ds1 := [114, 115, 116]) (ds2 := []) [(.bool false), undef, undef] (by kernel_rfl) ?_
                          refine over_nil ?_
                          simp only [putAll, put_lit, List.set_cons_succ, List.set_cons_zero]
                          exact post_skip rfl (by kernel_rfl) (by kernel_rfl) (by kernel_rfl) (by kernel_rfl)
                        case r15g10 => as_aux_lemma =>
                          intro w9 hb
                          refine over_some (ds1 := [114, 117]) (ds2 := []) [(.bool false), undef] (by kernel_rfl) ?_
                          refine over_nil ?_
                          simp only [putAll, put_lit, List.set_cons_succ, List.set_cons_zero]
                          exact post_skip rfl (by kernel_rfl) (by kernel_rfl) (by kernel_rfl) (by kernel_rfl)
                        case r15g11 => as_aux_lemma =>
                          intro w9 hb
                          refine over_some (ds1 := [114, 118]) (ds2 := []) [(.bool false), undef] (by kernel_rfl) ?_
                          refine over_nil ?_
                          simp only [putAll, put_lit, List.set_cons_succ, List.set_cons_zero]
                          exact post_skip rfl (by kernel_rfl) (by kernel_rfl) (by kernel_rfl) (by kernel_rfl)
                        case r15g12 => as_aux_lemma =>
                          intro w9 hb
                          refine over_some (ds1 := [114]) (ds2 := []) [(.bool false)] (by kernel_rfl) ?_
                          refine over_nil ?_
                          simp only [putAll, put_lit, List.set_cons_succ, List.set_cons_zero]
                          exact post_skip rfl (by kernel_rfl) (by kernel_rfl) (by kernel_rfl) (by kernel_rfl)
                        case r15g13 => as_aux_lemma =>
                          intro w9 hb
                          refine over_some (ds1 := [114, 120]) (ds2 := []) [(.bool false), undef] (by kernel_rfl) ?_
                          refine over_nil ?_
                          simp only [putAll, put_lit, List.set_cons_succ, List.set_cons_zero]
                          exact post_skip rfl (by kernel_rfl) (by kernel_rfl) (by kernel_rfl) (by kernel_rfl)
                        case r15g14 => as_aux_lemma =>
                          intro w9 hb
                          refine over_some (ds1 := [114, 119, 121]) (ds2 := []) [(.bool false), undef, undef] (by kernel_rfl) ?_
                          refine over_nil ?_
                          simp only [putAll, put_lit, List.set_cons_succ, List.set_cons_zero]
                          exact post_skip rfl (by kernel_rfl) (by kernel_rfl) (by kernel_rfl) (by kernel_rfl)
                        case r15g15 => as_aux_lemma =>
                          intro w9 hb
                          refine over_some (ds1 := [114, 122]) (ds2 := []) [(.bool false), undef] (by kernel_rfl) ?_
                          refine over_nil ?_
                          simp only [putAll, put_lit, List.set_cons_succ, List.set_cons_zero]
                          exact post_skip rfl (by kernel_rfl) (by kernel_rfl) (by kernel_rfl) (by kernel_rfl)
                        case r15g16 => as_aux_lemma =>
                          intro w9 hb
                          refine over_some (ds1 := [123]) (ds2 := []) [undef] (by kernel_rfl) ?_
                          refine over_nil ?_
                          simp only [putAll, put_lit, List.set_cons_succ, List.set_cons_zero]
                          exact post_skip rfl (by kernel_rfl) (by kernel_rfl) (by kernel_rfl) (by kernel_rfl)
                        case r15g17 => as_aux_lemma =>
                          intro w9 hb
                          refine over_some (ds1 := [123]) (ds2 := []) [undef] (by kernel_rfl) ?_
                          refine over_nil ?_
                          simp only [putAll, put_lit, List.set_cons_succ, List.set_cons_zero]
                          exact post_skip rfl (by kernel_rfl) (by kernel_rfl) (by kernel_rfl) (by kernel_rfl)
                        case r15g18 => as_aux_lemma =>
                          intro w9 hb
                          refine over_some (ds1 := [123, 124, 125]) (ds2 := []) [undef, undef, undef] (by kernel_rfl) ?_
                          refine over_nil ?_
                          simp only [putAll, put_lit, List.set_cons_succ, List.set_cons_zero]
                          exact post_skip rfl (by kernel_rfl) (by kernel_rfl) (by kernel_rfl) (by kernel_rfl)
                        case r15g19 => as_aux_lemma =>
                          intro w9 hb
                          refine over_some (ds1 := [123, 126]) (ds2 := []) [undef, undef] (by kernel_rfl) ?_
                          refine over_nil ?_
                          simp only [putAll, put_lit, List.set_cons_succ, List.set_cons_zero]
                          exact post_skip rfl (by kernel_rfl) (by kernel_rfl) (by kernel_rfl) (by kernel_rfl)
                        case r15g20 => as_aux_lemma =>
                          intro w9 hb
                          refine over_some (ds1 := [123, 127]) (ds2 := []) [undef, undef] (by kernel_rfl) ?_
                          refine over_nil ?_
                          simp only [putAll, put_lit, List.set_cons_succ, List.set_cons_zero]
                          exact post_skip rfl (by kernel_rfl) (by kernel_rfl) (by kernel_rfl) (by kernel_rfl)
                        case r15g21 => as_aux_lemma =>
                          intro w9 hb
                          refine over_some (ds1 := [123]) (ds2 := []) [undef] (by kernel_rfl) ?_
                          refine over_nil ?_
                          simp only [putAll, put_lit, List.set_cons_succ, List.set_cons_zero]
                          exact post_skip rfl (by kernel_rfl) (by kernel_rfl) (by kernel_rfl) (by kernel_rfl)
                        case r15g22 => as_aux_lemma =>
                          intro w9 hb
                          refine over_some (ds1 := [123, 129]) (ds2 := []) [undef, undef] (by kernel_rfl) ?_
                          refine over_nil ?_
                          simp only [putAll, put_lit, List.set_cons_succ, List.set_cons_zero]
                          exact post_skip rfl (by kernel_rfl) (by kernel_rfl) (by kernel_rfl) (by kernel_rfl)
                        case r15g23 => as_aux_lemma =>
                          intro w9 hb
                          refine over_some (ds1 := [123, 128, 130]) (ds2 := []) [undef, undef, undef] (by kernel_rfl) ?_
                          refine over_nil ?_
                          simp only [putAll, put_lit, List.set_cons_succ, List.set_cons_zero]
                          exact post_skip rfl (by kernel_rfl) (by kernel_rfl) (by kernel_rfl) (by kernel_rfl)
                        case r15g24 => as_aux_lemma =>
                          intro w9 hb
                          refine over_some (ds1 := [123, 131]) (ds2 := []) [undef, undef] (by kernel_rfl) ?_
                          refine over_nil ?_
                          simp only [putAll, put_lit, List.set_cons_succ, List.set_cons_zero]
                          exact post_skip rfl (by kernel_rfl) (by kernel_rfl) (by kernel_rfl) (by kernel_rfl)
                        case r15g25 => as_aux_lemma =>
                          intro w9 hb
                          refine over_some (ds1 := [132]) (ds2 := []) [undef] (by kernel_rfl) ?_
                          refine over_nil ?_
                          simp only [putAll, put_lit, List.set_cons_succ, List.set_cons_zero]
                          exact post_skip rfl (by kernel_rfl) (by kernel_rfl) (by kernel_rfl) (by kernel_rfl)
                        case r15g26 => as_aux_lemma =>
                          intro w9 hb
                          refine over_some (ds1 := [132]) (ds2 := []) [undef] (by kernel_rfl) ?_
                          refine over_nil ?_
                          simp only [putAll, put_lit, List.set_cons_succ, List.set_cons_zero]
                          exact post_skip rfl (by kernel_rfl) (by kernel_rfl) (by kernel_rfl) (by kernel_rfl)
                        case r15g27 => as_aux_lemma =>
                          intro w9 hb
                          refine over_some (ds1 := [132, 133, 134]) (ds2 := []) [undef, undef, undef] (by kernel_rfl) ?_
                          refine over_nil ?_
                          simp only [putAll, put_lit, List.set_cons_succ, List.set_cons_zero]
                          exact post_skip rfl (by kernel_rfl) (by kernel_rfl) (by kernel_rfl) (by kernel_rfl)
                        case r15g28 => as_aux_lemma =>
                          intro w9 hb
                          refine over_some (ds1 := [132, 135]) (ds2 := []) [undef, undef] (by kernel_rfl) ?_
                          refine over_nil ?_
                          simp only [putAll, put_lit, List.set_cons_succ, List.set_cons_zero]
                          exact post_skip rfl (by kernel_rfl) (by kernel_rfl) (by kernel_rfl) (by kernel_rfl)
                        case r15g29 => as_aux_lemma =>
                          intro w9 hb
                          refine over_some (ds1 := [132, 136]) (ds2 := []) [undef, undef] (by kernel_rfl) ?_
                          refine over_nil ?_
                          simp only [putAll, put_lit, List.set_cons_succ, List.set_cons_zero]
                          exact post_skip rfl (by kernel_rfl) (by kernel_rfl) (by kernel_rfl) (by kernel_rfl)
                        case r15g30 => as_aux_lemma =>
                          intro w9 hb
                          refine over_some (ds1 := [132]) (ds2 := []) [undef] (by kernel_rfl) ?_
                          refine over_nil ?_
                          simp only [putAll, put_lit, List.set_cons_succ, List.set_cons_zero]
                          exact post_skip rfl (by kernel_rfl) (by kernel_rfl) (by kernel_rfl) (by kernel_rfl)
                        case r15g31 => as_aux_lemma =>
                          intro w9 hb
                          refine over_some (ds1 := [132, 138]) (ds2 := []) [undef, undef] (by kernel_rfl) ?_
                          refine over_nil ?_
                          simp only [putAll, put_lit, List.set_cons_succ, List.set_cons_zero]
                          exact post_skip rfl (by kernel_rfl) (by kernel_rfl) (by kernel_rfl) (by kernel_rfl)
                        case r15g32 => as_aux_lemma =>
                          intro w9 hb
                          refine over_some (ds1 := [132, 137, 139]) (ds2 := []) [undef, undef, undef] (by kernel_rfl) ?_
                          refine over_nil ?_
                          simp only [putAll, put_lit, List.set_cons_succ, List.set_cons_zero]
                          exact post_skip rfl (by kernel_rfl) (by kernel_rfl) (by kernel_rfl) (by kernel_rfl)
                        case r15g33 => as_aux_lemma =>
                          intro w9 hb
                          refine over_some (ds1 := [123, 132, 140]) (ds2 := []) [undef, undef, undef] (by kernel_rfl) ?_
                          refine over_nil ?_
                          simp only [putAll, put_lit, List.set_cons_succ, List.set_cons_zero]
                          exact post_skip rfl (by kernel_rfl) (by kernel_rfl) (by kernel_rfl) (by kernel_rfl)
                        case r15g34 => as_aux_lemma =>
                          intro w9 hb
                          refine over_some (ds1 := [114, 123, 141]) (ds2 := []) [(.bool false), undef, undef] (by kernel_rfl) ?_
                          refine over_nil ?_
                          simp only [putAll, put_lit, List.set_cons_succ, List.set_cons_zero]
                          exact post_skip rfl (by kernel_rfl) (by kernel_rfl) (by kernel_rfl) (by kernel_rfl)
                    · obtain ⟨k, rfl⟩ := Int.eq_ofNat_of_zero_le (show 0 ≤ kk by omega)
                      obtain ⟨e, he, e2, e3, e4⟩ := (HK3.out HPT.out).2.2 k rfl
                      have hkn : k < n6 := by omega
                      obtain ⟨b6, o6, z6, rfl, hz6, hzm, HCZ⟩ := HP.out.sds.cells hkn
                      rw [List.getElem?_map, hz6] at he
                      obtain rfl := Option.some.inj he
                      clear he e2 hz6 hzm
                      have k0 : (0 : Int) ≤ (k : Int) := by omega
                      have k1 : (k : Int) < (n6 : Int) := by omega
                      have BB := Lib.hid (Below.refl wc.heap.size wc)
                      by_cases e5 : z6.1.2.1 = x.1.2.1
                      · have e5b : (z6.1.2.1 == x.1.2.1) = true := by simpa using e5
                        have e6 := e4 e5
                        clear e4 e5
                        as_aux_lemma =>
                          refine wp_region_typed 35 [(108, .val (.bool false)), (109, .val (.bool true)), (110, .val (.bool true)), (111, .val (.int .i64 (k : Int))), (112, .val (.bool true)), (113, .val (.bool true)), (114, .val (.bool true)), (115, .val (.slice (some ⟨b6, o6, none⟩) n6 c6)), (116, .val (.int .i64 (k : Int))), (117, .val (.pointer (some ⟨b6, o6 + k * 4, none⟩))), (118, .val (.pointer (some ⟨b6, o6 + k * 4 + 1, none⟩))), (119, .val (.int .u16 z6.1.2.1)), (120, .val (.pointer (some ⟨g14, 1, none⟩))), (121, .val (.int .u16 x.1.2.1)), (122, .val (.bool false)), (123, .val (.bool false)), (124, .val (.slice (some ⟨b6, o6, none⟩) n6 c6)), (125, .val (.int .i64 (k : Int))), (126, .val (.pointer (some ⟨b6, o6 + k * 4, none⟩))), (127, .val (.pointer (some ⟨b6, o6 + k * 4 + 1, none⟩))), (128, .val (.int .u16 z6.1.2.1)), (129, .val (.pointer (some ⟨g14, 1, none⟩))), (130, .val (.int .u16 x.1.2.1)), (131, .val (.bool true)), (132, .val (.bool true)), (133, .val (.slice (some ⟨b6, o6, none⟩) n6 c6)), (134, .val (.int .i64 (k : Int))), (135, .val (.pointer (some ⟨b6, o6 + k * 4, none⟩))), (136, .val (.pointer (some ⟨b6, o6 + k * 4 + 2, none⟩))), (137, .val (.int .u8 z6.1.2.2.1)), (138, .val (.pointer (some ⟨g14, 2, none⟩))), (139, .val (.int .u8 x.1.2.2.1)), (140, .val (.bool false)), (141, .val (.bool false)), (142, .val (.bool false))]
                            [[], [108], [109], [110], [110, 111], [110, 112], [113], [114], [114], [114, 115, 116], [114, 117], [114, 118], [114], [114, 120], [114, 119, 121], [114, 122], [123], [123], [123, 124, 125], [123, 126], [123, 127], [123], [123, 129], [123, 128, 130], [123, 131], [132], [132], [132, 133, 134], [132, 135], [132, 136], [132], [132, 138], [132, 137, 139], [123, 132, 140], [114, 123, 141]] (by kernel_rfl) (by kernel_rfl) ?_ ?_
                          rotate_left
                          · intro v61 hb
                            simp only [List.take_succ_cons, List.take_zero, List.drop_succ_cons, List.drop_zero]
                            refine over_ds (ds := [108, 109, 110, 111, 112, 113, 114, 115, 116, 117, 118, 119, 120, 121, 122, 123, 124, 125, 126, 127, 128, 129, 130, 131, 132, 133, 134, 135, 136, 137, 138, 139, 140, 141, 142]) (by kernel_rfl) ?_
                            refine over_some (ds1 := [108, 109, 110, 111, 112, 113, 114, 115, 116, 117, 118, 119, 120, 121, 122, 123, 124, 125, 126, 127, 128, 129, 130, 131, 132, 133, 134, 135, 136, 137, 138, 139, 140, 141, 142]) (ds2 := []) [(.bool false), (.bool true), (.bool true), (.int .i64 (k : Int)), (.bool true), (.bool true), (.bool true), (.slice (some ⟨b6, o6, none⟩) n6 c6), (.int .i64 (k : Int)), (.pointer (some ⟨b6, o6 + k * 4, none⟩)), (.pointer (some ⟨b6, o6 + k * 4 + 1, none⟩)), (.int .u16 z6.1.2.1), (.pointer (some ⟨g14, 1, none⟩)), (.int .u16 x.1.2.1), (.bool false), (.bool false), (.slice (some ⟨b6, o6, none⟩) n6 c6), (.int .i64 (k : Int)), (.pointer (some ⟨b6, o6 + k * 4, none⟩)), (.pointer (some ⟨b6, o6 + k * 4 + 1, none⟩)), (.int .u16 z6.1.2.1), (.pointer (some ⟨g14, 1, none⟩)), (.int .u16 x.1.2.1), (.bool true), (.bool true), (.slice (some ⟨b6, o6, none⟩) n6 c6), (.int .i64 (k : Int)), (.pointer (some ⟨b6, o6 + k * 4, none⟩)), (.pointer (some ⟨b6, o6 + k * 4 + 2, none⟩)), (.int .u8 z6.1.2.2.1), (.pointer (some ⟨g14, 2, none⟩)), (.int .u8 x.1.2.2.1), (.bool false), (.bool false), (.bool false)] (by kernel_rfl) ?_
                            refine over_nil ?_
                            simp only [putAll, put_lit, List.set_cons_succ, List.set_cons_zero]
                            replace HV := Lib.hid (HV.out.next hb)
                            replace K14 := Lib.hid (K14.out.next hb)
                            replace HP := Lib.hid (HP.out.next hb)
                            replace BB := Lib.hid (thn BB.out hb)
                            clear hb
                            go_wp2
                            go_meet
                            case rel => exact ⟨rfl, BB⟩
                          simp only [List.take_succ_cons, List.take_zero]
                          refine ⟨?r15g0, ?r15g1, ?r15g2, ?r15g3, ?r15g4, ?r15g5, ?r15g6, ?r15g7, ?r15g8, ?r15g9, ?r15g10, ?r15g11, ?r15g12, ?r15g13, ?r15g14, ?r15g15, ?r15g16, ?r15g17, ?r15g18, ?r15g19, ?r15g20, ?r15g21, ?r15g22, ?r15g23, ?r15g24, ?r15g25, ?r15g26, ?r15g27, ?r15g28, ?r15g29, ?r15g30, ?r15g31, ?r15g32, ?r15g33, ?r15g34, trivial⟩
                          case r15g0 => as_aux_lemma =>
                            intro w9 hb
                            refine over_nil ?_
                            go_wp2
                            first | exact post_of (by rfl) (by rfl) (Below.refl _ _) (by rfl) | exact rfl
                          case r15g1 => as_aux_lemma =>
                            intro w9 hb
                            refine over_some (ds1 := [108]) (ds2 := []) [(.bool false)] (by kernel_rfl) ?_
                            refine over_nil ?_
                            simp only [putAll, put_lit, List.set_cons_succ, List.set_cons_zero]
                            go_wp2
                            first | exact post_of (by rfl) (by rfl) (Below.refl _ _) (by rfl) | exact rfl
                          case r15g2 => as_aux_lemma =>
                            intro w9 hb
                            refine over_some (ds1 := [109]) (ds2 := []) [(.bool true)] (by kernel_rfl) ?_
                            refine over_nil ?_
                            simp only [putAll, put_lit, List.set_cons_succ, List.set_cons_zero]
                            go_wp2
                            first | exact post_of (by rfl) (by rfl) (Below.refl _ _) (by rfl) | exact rfl
                          case r15g3 => as_aux_lemma =>
                            intro w9 hb
                            refine over_some (ds1 := [110]) (ds2 := []) [(.bool true)] (by kernel_rfl) ?_
                            refine over_nil ?_
                            simp only [putAll, put_lit, List.set_cons_succ, List.set_cons_zero]
                            go_wp2
                            first | exact post_of (by rfl) (by rfl) (Below.refl _ _) (by rfl) | exact rfl
                          case r15g4 => as_aux_lemma =>
                            intro w9 hb
                            refine over_some (ds1 := [110, 111]) (ds2 := []) [(.bool true), (.int .i64 (k : Int))] (by kernel_rfl) ?_
                            refine over_nil ?_
                            simp only [putAll, put_lit, List.set_cons_succ, List.set_cons_zero]
                            go_wp2
                            exact post_of (by rfl) (by rfl) (Below.refl _ _) (by first | rfl | (show Value.bool _ = Value.bool _; rw [Value.bool.injEq]; first | exact decide_eq_true (by omega) | exact decide_eq_false (by omega) | assumption | (simp; omega)))
                          case r15g5 => as_aux_lemma =>
                            intro w9 hb
                            refine over_some (ds1 := [110, 112]) (ds2 := []) [(.bool true), (.bool true)] (by kernel_rfl) ?_
                            refine over_nil ?_
                            simp only [putAll, put_lit, List.set_cons_succ, List.set_cons_zero]
                            go_wp2
                            first | exact post_of (by rfl) (by rfl) (Below.refl _ _) (by rfl) | exact rfl
                          case r15g6 => as_aux_lemma =>
                            intro w9 hb
                            refine over_some (ds1 := [113]) (ds2 := []) [(.bool true)] (by kernel_rfl) ?_
                            refine over_nil ?_
                            simp only [putAll, put_lit, List.set_cons_succ, List.set_cons_zero]
                            go_wp2
                            first | exact post_of (by rfl) (by rfl) (Below.refl _ _) (by rfl) | exact rfl
                          case r15g7 => as_aux_lemma =>
                            intro w9 hb
                            refine over_some (ds1 := [114]) (ds2 := []) [(.bool true)] (by kernel_rfl) ?_
                            refine over_nil ?_
                            simp only [putAll, put_lit, List.set_cons_succ, List.set_cons_zero]
                            go_wp2
                            first | exact post_of (by rfl) (by rfl) (Below.refl _ _) (by rfl) | exact rfl
                          case r15g8 => as_aux_lemma =>
                            intro w9 hb
                            refine over_some (ds1 := [114]) (ds2 := []) [(.bool true)] (by kernel_rfl) ?_
                            refine over_nil ?_
                            simp only [putAll, put_lit, List.set_cons_succ, List.set_cons_zero]
                            go_wp2
                            first | exact post_of (by rfl) (by rfl) (Below.refl _ _) (by rfl) | exact rfl
                          case r15g9 => as_aux_lemma =>
                            intro w9 hb
                            refine over_some (ds1 := [114, 115, 116]) (ds2 := []) [(.bool true), (.slice (some ⟨b6, o6, none⟩) n6 c6), (.int .i64 (k : Int))] (by kernel_rfl) ?_
                            refine over_nil ?_
                            simp only [putAll, put_lit, List.set_cons_succ, List.set_cons_zero]
                            go_wp2
                            first | exact post_of (by rfl) (by rfl) (Below.refl _ _) (by rfl) | exact rfl
                          case r15g10 => as_aux_lemma =>
                            intro w9 hb
                            refine over_some (ds1 := [114, 117]) (ds2 := []) [(.bool true), (.pointer (some ⟨b6, o6 + k * 4, none⟩))] (by kernel_rfl) ?_
                            refine over_nil ?_
                            simp only [putAll, put_lit, List.set_cons_succ, List.set_cons_zero]
                            go_wp2
                            first | exact post_of (by rfl) (by rfl) (Below.refl _ _) (by rfl) | exact rfl
                          case r15g11 => as_aux_lemma =>
                            intro w9 hb
                            refine over_some (ds1 := [114, 118]) (ds2 := []) [(.bool true), (.pointer (some ⟨b6, o6 + k * 4 + 1, none⟩))] (by kernel_rfl) ?_
                            refine over_nil ?_
                            simp only [putAll, put_lit, List.set_cons_succ, List.set_cons_zero]
                            obtain ⟨p0, q0, r0, s0⟩ := HCZ.out w9 hb
                            go_wp2
                            first | exact post_of (by rfl) (by rfl) (Below.refl _ _) (by rfl) | exact rfl
                          case r15g12 => as_aux_lemma =>
                            intro w9 hb
                            refine over_some (ds1 := [114]) (ds2 := []) [(.bool true)] (by kernel_rfl) ?_
                            refine over_nil ?_
                            simp only [putAll, put_lit, List.set_cons_succ, List.set_cons_zero]
                            go_wp2
                            first | exact post_of (by rfl) (by rfl) (Below.refl _ _) (by rfl) | exact rfl
                          case r15g13 => as_aux_lemma =>
                            intro w9 hb
                            refine over_some (ds1 := [114, 120]) (ds2 := []) [(.bool true), (.pointer (some ⟨g14, 1, none⟩))] (by kernel_rfl) ?_
                            refine over_nil ?_
                            simp only [putAll, put_lit, List.set_cons_succ, List.set_cons_zero]
                            obtain ⟨p0, q0, r0, s0⟩ := (K14.out.next hb).cells
                            go_wp2
                            first | exact post_of (by rfl) (by rfl) (Below.refl _ _) (by rfl) | exact rfl
                          case r15g14 => as_aux_lemma =>
                            intro w9 hb
                            refine over_some (ds1 := [114, 119, 121]) (ds2 := []) [(.bool true), (.int .u16 z6.1.2.1), (.int .u16 x.1.2.1)] (by kernel_rfl) ?_
                            refine over_nil ?_
                            simp only [putAll, put_lit, List.set_cons_succ, List.set_cons_zero]
                            go_wp2
                            exact post_of (by rfl) (by rfl) (Below.refl _ _) (by first | rfl | (show Value.bool _ = Value.bool _; rw [Value.bool.injEq]; first | exact decide_eq_true (by omega) | exact decide_eq_false (by omega) | assumption | (simp; omega)))
                          case r15g15 => as_aux_lemma =>
                            intro w9 hb
                            refine over_some (ds1 := [114, 122]) (ds2 := []) [(.bool true), (.bool false)] (by kernel_rfl) ?_
                            refine over_nil ?_
                            simp only [putAll, put_lit, List.set_cons_succ, List.set_cons_zero]
                            go_wp2
                            first | exact post_of (by rfl) (by rfl) (Below.refl _ _) (by rfl) | exact rfl
                          case r15g16 => as_aux_lemma =>
                            intro w9 hb
                            refine over_some (ds1 := [123]) (ds2 := []) [(.bool false)] (by kernel_rfl) ?_
                            refine over_nil ?_
                            simp only [putAll, put_lit, List.set_cons_succ, List.set_cons_zero]
                            go_wp2
                            first | exact post_of (by rfl) (by rfl) (Below.refl _ _) (by rfl) | exact rfl
                          case r15g17 => as_aux_lemma =>
                            intro w9 hb
                            refine over_some (ds1 := [123]) (ds2 := []) [(.bool false)] (by kernel_rfl) ?_
                            refine over_nil ?_
                            simp only [putAll, put_lit, List.set_cons_succ, List.set_cons_zero]
                            go_wp2
                            first | exact post_of (by rfl) (by rfl) (Below.refl _ _) (by rfl) | exact rfl
                          case r15g18 => as_aux_lemma =>
                            intro w9 hb
                            refine over_some (ds1 := [123, 124, 125]) (ds2 := []) [(.bool false), (.slice (some ⟨b6, o6, none⟩) n6 c6), (.int .i64 (k : Int))] (by kernel_rfl) ?_
                            refine over_nil ?_
                            simp only [putAll, put_lit, List.set_cons_succ, List.set_cons_zero]
                            go_wp2
                            first | exact post_of (by rfl) (by rfl) (Below.refl _ _) (by rfl) | exact rfl
                          case r15g19 => as_aux_lemma =>
                            intro w9 hb
                            refine over_some (ds1 := [123, 126]) (ds2 := []) [(.bool false), (.pointer (some ⟨b6, o6 + k * 4, none⟩))] (by kernel_rfl) ?_
                            refine over_nil ?_
                            simp only [putAll, put_lit, List.set_cons_succ, List.set_cons_zero]
                            go_wp2
                            first | exact post_of (by rfl) (by rfl) (Below.refl _ _) (by rfl) | exact rfl
                          case r15g20 => as_aux_lemma =>
                            intro w9 hb
                            refine over_some (ds1 := [123, 127]) (ds2 := []) [(.bool false), (.pointer (some ⟨b6, o6 + k * 4 + 1, none⟩))] (by kernel_rfl) ?_
                            refine over_nil ?_
                            simp only [putAll, put_lit, List.set_cons_succ, List.set_cons_zero]
                            obtain ⟨p0, q0, r0, s0⟩ := HCZ.out w9 hb
                            go_wp2
                            first | exact post_of (by rfl) (by rfl) (Below.refl _ _) (by rfl) | exact rfl
                          case r15g21 => as_aux_lemma =>
                            intro w9 hb
                            refine over_some (ds1 := [123]) (ds2 := []) [(.bool false)] (by kernel_rfl) ?_
                            refine over_nil ?_
                            simp only [putAll, put_lit, List.set_cons_succ, List.set_cons_zero]
                            go_wp2
                            first | exact post_of (by rfl) (by rfl) (Below.refl _ _) (by rfl) | exact rfl
                          case r15g22 => as_aux_lemma =>
                            intro w9 hb
                            refine over_some (ds1 := [123, 129]) (ds2 := []) [(.bool false), (.pointer (some ⟨g14, 1, none⟩))] (by kernel_rfl) ?_
                            refine over_nil ?_
                            simp only [putAll, put_lit, List.set_cons_succ, List.set_cons_zero]
                            obtain ⟨p0, q0, r0, s0⟩ := (K14.out.next hb).cells
                            go_wp2
                            first | exact post_of (by rfl) (by rfl) (Below.refl _ _) (by rfl) | exact rfl
                          case r15g23 => as_aux_lemma =>
                            intro w9 hb
                            refine over_some (ds1 := [123, 128, 130]) (ds2 := []) [(.bool false), (.int .u16 z6.1.2.1), (.int .u16 x.1.2.1)] (by kernel_rfl) ?_
                            refine over_nil ?_
                            simp only [putAll, put_lit, List.set_cons_succ, List.set_cons_zero]
                            go_wp2
                            exact post_of (by rfl) (by rfl) (Below.refl _ _) (by first | rfl | (show Value.bool _ = Value.bool _; rw [Value.bool.injEq]; first | exact decide_eq_true (by omega) | exact decide_eq_false (by omega) | assumption | (simp; omega)))
                          case r15g24 => as_aux_lemma =>
                            intro w9 hb
                            refine over_some (ds1 := [123, 131]) (ds2 := []) [(.bool false), (.bool true)] (by kernel_rfl) ?_
                            refine over_nil ?_
                            simp only [putAll, put_lit, List.set_cons_succ, List.set_cons_zero]
                            go_wp2
                            first | exact post_of (by rfl) (by rfl) (Below.refl _ _) (by rfl) | exact rfl
                          case r15g25 => as_aux_lemma =>
                            intro w9 hb
                            refine over_some (ds1 := [132]) (ds2 := []) [(.bool true)] (by kernel_rfl) ?_
                            refine over_nil ?_
                            simp only [putAll, put_lit, List.set_cons_succ, List.set_cons_zero]
                            go_wp2
                            first | exact post_of (by rfl) (by rfl) (Below.refl _ _) (by rfl) | exact rfl
                          case r15g26 => as_aux_lemma =>
                            intro w9 hb
                            refine over_some (ds1 := [132]) (ds2 := []) [(.bool true)] (by kernel_rfl) ?_
                            refine over_nil ?_
                            simp only [putAll, put_lit, List.set_cons_succ, List.set_cons_zero]
                            go_wp2
                            first | exact post_of (by rfl) (by rfl) (Below.refl _ _) (by rfl) | exact rfl
                          case r15g27 => as_aux_lemma =>
                            intro w9 hb
                            refine over_some (ds1 := [132, 133, 134]) (ds2 := []) [(.bool true), (.slice (some ⟨b6, o6, none⟩) n6 c6), (.int .i64 (k : Int))] (by kernel_rfl) ?_
                            refine over_nil ?_
                            simp only [putAll, put_lit, List.set_cons_succ, List.set_cons_zero]
                            go_wp2
                            first | exact post_of (by rfl) (by rfl) (Below.refl _ _) (by rfl) | exact rfl
                          case r15g28 => as_aux_lemma =>
                            intro w9 hb
                            refine over_some (ds1 := [132, 135]) (ds2 := []) [(.bool true), (.pointer (some ⟨b6, o6 + k * 4, none⟩))] (by kernel_rfl) ?_
                            refine over_nil ?_
                            simp only [putAll, put_lit, List.set_cons_succ, List.set_cons_zero]
                            go_wp2
                            first | exact post_of (by rfl) (by rfl) (Below.refl _ _) (by rfl) | exact rfl
                          case r15g29 => as_aux_lemma =>
                            intro w9 hb
                            refine over_some (ds1 := [132, 136]) (ds2 := []) [(.bool true), (.pointer (some ⟨b6, o6 + k * 4 + 2, none⟩))] (by kernel_rfl) ?_
                            refine over_nil ?_
                            simp only [putAll, put_lit, List.set_cons_succ, List.set_cons_zero]
                            obtain ⟨p0, q0, r0, s0⟩ := HCZ.out w9 hb
                            go_wp2
                            first | exact post_of (by rfl) (by rfl) (Below.refl _ _) (by rfl) | exact rfl
                          case r15g30 => as_aux_lemma =>
                            intro w9 hb
                            refine over_some (ds1 := [132]) (ds2 := []) [(.bool true)] (by kernel_rfl) ?_
                            refine over_nil ?_
                            simp only [putAll, put_lit, List.set_cons_succ, List.set_cons_zero]
                            go_wp2
                            first | exact post_of (by rfl) (by rfl) (Below.refl _ _) (by rfl) | exact rfl
                          case r15g31 => as_aux_lemma =>
                            intro w9 hb
                            refine over_some (ds1 := [132, 138]) (ds2 := []) [(.bool true), (.pointer (some ⟨g14, 2, none⟩))] (by kernel_rfl) ?_
                            refine over_nil ?_
                            simp only [putAll, put_lit, List.set_cons_succ, List.set_cons_zero]
                            obtain ⟨p0, q0, r0, s0⟩ := (K14.out.next hb).cells
                            go_wp2
                            first | exact post_of (by rfl) (by rfl) (Below.refl _ _) (by rfl) | exact rfl
                          case r15g32 => as_aux_lemma =>
                            intro w9 hb
                            refine over_some (ds1 := [132, 137, 139]) (ds2 := []) [(.bool true), (.int .u8 z6.1.2.2.1), (.int .u8 x.1.2.2.1)] (by kernel_rfl) ?_
                            refine over_nil ?_
                            simp only [putAll, put_lit, List.set_cons_succ, List.set_cons_zero]
                            go_wp2
                            exact post_of (by rfl) (by rfl) (Below.refl _ _) (by first | rfl | (show Value.bool _ = Value.bool _; rw [Value.bool.injEq]; first | exact decide_eq_true (by omega) | exact decide_eq_false (by omega) | assumption | (simp; omega)))
                          case r15g33 => as_aux_lemma =>
                            intro w9 hb
                            refine over_some (ds1 := [123, 132, 140]) (ds2 := []) [(.bool false), (.bool true), (.bool false)] (by kernel_rfl) ?_
                            refine over_nil ?_
                            simp only [putAll, put_lit, List.set_cons_succ, List.set_cons_zero]
                            go_wp2
                            first | exact post_of (by rfl) (by rfl) (Below.refl _ _) (by rfl) | exact rfl
                          case r15g34 => as_aux_lemma =>
                            intro w9 hb
                            refine over_some (ds1 := [114, 123, 141]) (ds2 := []) [(.bool true), (.bool false), (.bool false)] (by kernel_rfl) ?_
                            refine over_nil ?_
                            simp only [putAll, put_lit, List.set_cons_succ, List.set_cons_zero]
                            go_wp2
                            first | exact post_of (by rfl) (by rfl) (Below.refl _ _) (by rfl) | exact rfl
                      · have e5b : (z6.1.2.1 == x.1.2.1) = false := by simpa using e5
                        clear e4 e5
                        as_aux_lemma =>
                          refine wp_region_typed 35 [(108, .val (.bool false)), (109, .val (.bool true)), (110, .val (.bool true)), (111, .val (.int .i64 (k : Int))), (112, .val (.bool true)), (113, .val (.bool true)), (114, .val (.bool true)), (115, .val (.slice (some ⟨b6, o6, none⟩) n6 c6)), (116, .val (.int .i64 (k : Int))), (117, .val (.pointer (some ⟨b6, o6 + k * 4, none⟩))), (118, .val (.pointer (some ⟨b6, o6 + k * 4 + 1, none⟩))), (119, .val (.int .u16 z6.1.2.1)), (120, .val (.pointer (some ⟨g14, 1, none⟩))), (121, .val (.int .u16 x.1.2.1)), (122, .val (.bool false)), (123, .val (.bool false)), (124, .val (.slice (some ⟨b6, o6, none⟩) n6 c6)), (125, .val (.int .i64 (k : Int))), (126, .val (.pointer (some ⟨b6, o6 + k * 4, none⟩))), (127, .val (.pointer (some ⟨b6, o6 + k * 4 + 1, none⟩))), (128, .val (.int .u16 z6.1.2.1)), (129, .val (.pointer (some ⟨g14, 1, none⟩))), (130, .val (.int .u16 x.1.2.1)), (131, .val (.bool false)), (132, .val (.bool false)), (133, .val undef), (134, .val undef), (135, .val undef), (136, .val undef), (137, .val undef), (138, .val undef), (139, .val undef), (140, .val undef), (141, .val (.bool false)), (142, .val (.bool false))]
                            [[], [108], [109], [110], [110, 111], [110, 112], [113], [114], [114], [114, 115, 116], [114, 117], [114, 118], [114], [114, 120], [114, 119, 121], [114, 122], [123], [123], [123, 124, 125], [123, 126], [123, 127], [123], [123, 129], [123, 128, 130], [123, 131], [132], [132], [132, 133, 134], [132, 135], [132, 136], [132], [132, 138], [132, 137, 139], [123, 132, 140], [114, 123, 141]] (by kernel_rfl) (by kernel_rfl) ?_ ?_
                          rotate_left
                          · intro v61 hb
                            simp only [List.take_succ_cons, List.take_zero, List.drop_succ_cons, List.drop_zero]
                            refine over_ds (ds := [108, 109, 110, 111, 112, 113, 114, 115, 116, 117, 118, 119, 120, 121, 122, 123, 124, 125, 126, 127, 128, 129, 130, 131, 132, 133, 134, 135, 136, 137, 138, 139, 140, 141, 142]) (by kernel_rfl) ?_
                            refine over_some (ds1 := [108, 109, 110, 111, 112, 113, 114, 115, 116, 117, 118, 119, 120, 121, 122, 123, 124, 125, 126, 127, 128, 129, 130, 131, 132, 133, 134, 135, 136, 137, 138, 139, 140, 141, 142]) (ds2 := []) [(.bool false), (.bool true), (.bool true), (.int .i64 (k : Int)), (.bool true), (.bool true), (.bool true), (.slice (some ⟨b6, o6, none⟩) n6 c6), (.int .i64 (k : Int)), (.pointer (some ⟨b6, o6 + k * 4, none⟩)), (.pointer (some ⟨b6, o6 + k * 4 + 1, none⟩)), (.int .u16 z6.1.2.1), (.pointer (some ⟨g14, 1, none⟩)), (.int .u16 x.1.2.1), (.bool false), (.bool false), (.slice (some ⟨b6, o6, none⟩) n6 c6), (.int .i64 (k : Int)), (.pointer (some ⟨b6, o6 + k * 4, none⟩)), (.pointer (some ⟨b6, o6 + k * 4 + 1, none⟩)), (.int .u16 z6.1.2.1), (.pointer (some ⟨g14, 1, none⟩)), (.int .u16 x.1.2.1), (.bool false), (.bool false), undef, undef, undef, undef, undef, undef, undef, undef, (.bool false), (.bool false)] (by kernel_rfl) ?_
                            refine over_nil ?_
                            simp only [putAll, put_lit, List.set_cons_succ, List.set_cons_zero]
                            replace HV := Lib.hid (HV.out.next hb)
                            replace K14 := Lib.hid (K14.out.next hb)
                            replace HP := Lib.hid (HP.out.next hb)
                            replace BB := Lib.hid (thn BB.out hb)
                            clear hb
                            go_wp2
                            go_meet
                            case rel => exact ⟨rfl, BB⟩
                          simp only [List.take_succ_cons, List.take_zero]
                          refine ⟨?r15g0, ?r15g1, ?r15g2, ?r15g3, ?r15g4, ?r15g5, ?r15g6, ?r15g7, ?r15g8, ?r15g9, ?r15g10, ?r15g11, ?r15g12, ?r15g13, ?r15g14, ?r15g15, ?r15g16, ?r15g17, ?r15g18, ?r15g19, ?r15g20, ?r15g21, ?r15g22, ?r15g23, ?r15g24, ?r15g25, ?r15g26, ?r15g27, ?r15g28, ?r15g29, ?r15g30, ?r15g31, ?r15g32, ?r15g33, ?r15g34, trivial⟩
                          case r15g0 => as_aux_lemma =>
                            intro w9 hb
                            refine over_nil ?_
                            go_wp2
                            first | exact post_of (by rfl) (by rfl) (Below.refl _ _) (by rfl) | exact rfl
                          case r15g1 => as_aux_lemma =>
                            intro w9 hb
                            refine over_some (ds1 := [108]) (ds2 := []) [(.bool false)] (by kernel_rfl) ?_
                            refine over_nil ?_
                            simp only [putAll, put_lit, List.set_cons_succ, List.set_cons_zero]
                            go_wp2
                            first | exact post_of (by rfl) (by rfl) (Below.refl _ _) (by rfl) | exact rfl
                          case r15g2 => as_aux_lemma =>
                            intro w9 hb
                            refine over_some (ds1 := [109]) (ds2 := []) [(.bool true)] (by kernel_rfl) ?_
                            refine over_nil ?_
                            simp only [putAll, put_lit, List.set_cons_succ, List.set_cons_zero]
                            go_wp2
                            first | exact post_of (by rfl) (by rfl) (Below.refl _ _) (by rfl) | exact rfl
                          case r15g3 => as_aux_lemma =>
                            intro w9 hb
                            refine over_some (ds1 := [110]) (ds2 := []) [(.bool true)] (by kernel_rfl) ?_
                            refine over_nil ?_
                            simp only [putAll, put_lit, List.set_cons_succ, List.set_cons_zero]
                            go_wp2
                            first | exact post_of (by rfl) (by rfl) (Below.refl _ _) (by rfl) | exact rfl
                          case r15g4 => as_aux_lemma =>
                            intro w9 hb
                            refine over_some (ds1 := [110, 111]) (ds2 := []) [(.bool true), (.int .i64 (k : Int))] (by kernel_rfl) ?_
                            refine over_nil ?_
                            simp only [putAll, put_lit, List.set_cons_succ, List.set_cons_zero]
                            go_wp2
                            exact post_of (by rfl) (by rfl) (Below.refl _ _) (by first | rfl | (show Value.bool _ = Value.bool _; rw [Value.bool.injEq]; first | exact decide_eq_true (by omega) | exact decide_eq_false (by omega) | assumption | (simp; omega)))
                          case r15g5 => as_aux_lemma =>
                            intro w9 hb
                            refine over_some (ds1 := [110, 112]) (ds2 := []) [(.bool true), (.bool true)] (by kernel_rfl) ?_
                            refine over_nil ?_
                            simp only [putAll, put_lit, List.set_cons_succ, List.set_cons_zero]
                            go_wp2
                            first | exact post_of (by rfl) (by rfl) (Below.refl _ _) (by rfl) | exact rfl
                          case r15g6 => as_aux_lemma =>
                            intro w9 hb
                            refine over_some (ds1 := [113]) (ds2 := []) [(.bool true)] (by kernel_rfl) ?_
                            refine over_nil ?_
                            simp only [putAll, put_lit, List.set_cons_succ, List.set_cons_zero]
                            go_wp2
                            first | exact post_of (by rfl) (by rfl) (Below.refl _ _) (by rfl) | exact rfl
                          case r15g7 => as_aux_lemma =>
                            intro w9 hb
                            refine over_some (ds1 := [114]) (ds2 := []) [(.bool true)] (by kernel_rfl) ?_
                            refine over_nil ?_
                            simp only [putAll, put_lit, List.set_cons_succ, List.set_cons_zero]
                            go_wp2
                            first | exact post_of (by rfl) (by rfl) (Below.refl _ _) (by rfl) | exact rfl
                          case r15g8 => as_aux_lemma =>
                            intro w9 hb
                            refine over_some (ds1 := [114]) (ds2 := []) [(.bool true)] (by kernel_rfl) ?_
                            refine over_nil ?_
                            simp only [putAll, put_lit, List.set_cons_succ, List.set_cons_zero]
                            go_wp2
                            first | exact post_of (by rfl) (by rfl) (Below.refl _ _) (by rfl) | exact rfl
                          case r15g9 => as_aux_lemma =>
                            intro w9 hb
                            refine over_some (ds1 := [114, 115, 116]) (ds2 := []) [(.bool true), (.slice (some ⟨b6, o6, none⟩) n6 c6), (.int .i64 (k : Int))] (by kernel_rfl) ?_
                            refine over_nil ?_
                            simp only [putAll, put_lit, List.set_cons_succ, List.set_cons_zero]
                            go_wp2
                            first | exact post_of (by rfl) (by rfl) (Below.refl _ _) (by rfl) | exact rfl
                          case r15g10 => as_aux_lemma =>
                            intro w9 hb
                            refine over_some (ds1 := [114, 117]) (ds2 := []) [(.bool true), (.pointer (some ⟨b6, o6 + k * 4, none⟩))] (by kernel_rfl) ?_
                            refine over_nil ?_
                            simp only [putAll, put_lit, List.set_cons_succ, List.set_cons_zero]
                            go_wp2
                            first | exact post_of (by rfl) (by rfl) (Below.refl _ _) (by rfl) | exact rfl
                          case r15g11 => as_aux_lemma =>
                            intro w9 hb
                            refine over_some (ds1 := [114, 118]) (ds2 := []) [(.bool true), (.pointer (some ⟨b6, o6 + k * 4 + 1, none⟩))] (by kernel_rfl) ?_
                            refine over_nil ?_
                            simp only [putAll, put_lit, List.set_cons_succ, List.set_cons_zero]
                            obtain ⟨p0, q0, r0, s0⟩ := HCZ.out w9 hb
                            go_wp2
                            first | exact post_of (by rfl) (by rfl) (Below.refl _ _) (by rfl) | exact rfl
                          case r15g12 => as_aux_lemma =>
                            intro w9 hb
                            refine over_some (ds1 := [114]) (ds2 := []) [(.bool true)] (by kernel_rfl) ?_
                            refine over_nil ?_
                            simp only [putAll, put_lit, List.set_cons_succ, List.set_cons_zero]
                            go_wp2
                            first | exact post_of (by rfl) (by rfl) (Below.refl _ _) (by rfl) | exact rfl
                          case r15g13 => as_aux_lemma =>
                            intro w9 hb
                            refine over_some (ds1 := [114, 120]) (ds2 := []) [(.bool true), (.pointer (some ⟨g14, 1, none⟩))] (by kernel_rfl) ?_
                            refine over_nil ?_
                            simp only [putAll, put_lit, List.set_cons_succ, List.set_cons_zero]
                            obtain ⟨p0, q0, r0, s0⟩ := (K14.out.next hb).cells
                            go_wp2
                            first | exact post_of (by rfl) (by rfl) (Below.refl _ _) (by rfl) | exact rfl
                          case r15g14 => as_aux_lemma =>
                            intro w9 hb
                            refine over_some (ds1 := [114, 119, 121]) (ds2 := []) [(.bool true), (.int .u16 z6.1.2.1), (.int .u16 x.1.2.1)] (by kernel_rfl) ?_
                            refine over_nil ?_
                            simp only [putAll, put_lit, List.set_cons_succ, List.set_cons_zero]
                            go_wp2
                            exact post_of (by rfl) (by rfl) (Below.refl _ _) (by first | rfl | (show Value.bool _ = Value.bool _; rw [Value.bool.injEq]; first | exact decide_eq_true (by omega) | exact decide_eq_false (by omega) | assumption | (simp; omega)))
                          case r15g15 => as_aux_lemma =>
                            intro w9 hb
                            refine over_some (ds1 := [114, 122]) (ds2 := []) [(.bool true), (.bool false)] (by kernel_rfl) ?_
                            refine over_nil ?_
                            simp only [putAll, put_lit, List.set_cons_succ, List.set_cons_zero]
                            go_wp2
                            first | exact post_of (by rfl) (by rfl) (Below.refl _ _) (by rfl) | exact rfl
                          case r15g16 => as_aux_lemma =>
                            intro w9 hb
                            refine over_some (ds1 := [123]) (ds2 := []) [(.bool false)] (by kernel_rfl) ?_
                            refine over_nil ?_
                            simp only [putAll, put_lit, List.set_cons_succ, List.set_cons_zero]
                            go_wp2
                            first | exact post_of (by rfl) (by rfl) (Below.refl _ _) (by rfl) | exact rfl
                          case r15g17 => as_aux_lemma =>
                            intro w9 hb
                            refine over_some (ds1 := [123]) (ds2 := []) [(.bool false)] (by kernel_rfl) ?_
                            refine over_nil ?_
                            simp only [putAll, put_lit, List.set_cons_succ, List.set_cons_zero]
                            go_wp2
                            first | exact post_of (by rfl) (by rfl) (Below.refl _ _) (by rfl) | exact rfl
                          case r15g18 => as_aux_lemma =>
                            intro w9 hb
                            refine over_some (ds1 := [123, 124, 125]) (ds2 := []) [(.bool false), (.slice (some ⟨b6, o6, none⟩) n6 c6), (.int .i64 (k : Int))] (by kernel_rfl) ?_
                            refine over_nil ?_
                            simp only [putAll, put_lit, List.set_cons_succ, List.set_cons_zero]
                            go_wp2
                            first | exact post_of (by rfl) (by rfl) (Below.refl _ _) (by rfl) | exact rfl
                          case r15g19 => as_aux_lemma =>
                            intro w9 hb
                            refine over_some (ds1 := [123, 126]) (ds2 := []) [(.bool false), (.pointer (some ⟨b6, o6 + k * 4, none⟩))] (by kernel_rfl) ?_
                            refine over_nil ?_
                            simp only [putAll, put_lit, List.set_cons_succ, List.set_cons_zero]
                            go_wp2
                            first | exact post_of (by rfl) (by rfl) (Below.refl _ _) (by rfl) | exact rfl
                          case r15g20 => as_aux_lemma =>
                            intro w9 hb
                            refine over_some (ds1 := [123, 127]) (ds2 := []) [(.bool false), (.pointer (some ⟨b6, o6 + k * 4 + 1, none⟩))] (by kernel_rfl) ?_
                            refine over_nil ?_
                            simp only [putAll, put_lit, List.set_cons_succ, List.set_cons_zero]
                            obtain ⟨p0, q0, r0, s0⟩ := HCZ.out w9 hb
                            go_wp2
                            first | exact post_of (by rfl) (by rfl) (Below.refl _ _) (by rfl) | exact rfl
                          case r15g21 => as_aux_lemma =>
                            intro w9 hb
                            refine over_some (ds1 := [123]) (ds2 := []) [(.bool false)] (by kernel_rfl) ?_
                            refine over_nil ?_
                            simp only [putAll, put_lit, List.set_cons_succ, List.set_cons_zero]
                            go_wp2
                            first | exact post_of (by rfl) (by rfl) (Below.refl _ _) (by rfl) | exact rfl
                          case r15g22 => as_aux_lemma =>
                            intro w9 hb
                            refine over_some (ds1 := [123, 129]) (ds2 := []) [(.bool false), (.pointer (some ⟨g14, 1, none⟩))] (by kernel_rfl) ?_
                            refine over_nil ?_
                            simp only [putAll, put_lit, List.set_cons_succ, List.set_cons_zero]
                            obtain ⟨p0, q0, r0, s0⟩ := (K14.out.next hb).cells
                            go_wp2
                            first | exact post_of (by rfl) (by rfl) (Below.refl _ _) (by rfl) | exact rfl
                          case r15g23 => as_aux_lemma =>
                            intro w9 hb
                            refine over_some (ds1 := [123, 128, 130]) (ds2 := []) [(.bool false), (.int .u16 z6.1.2.1), (.int .u16 x.1.2.1)] (by kernel_rfl) ?_
                            refine over_nil ?_
                            simp only [putAll, put_lit, List.set_cons_succ, List.set_cons_zero]
                            go_wp2
                            exact post_of (by rfl) (by rfl) (Below.refl _ _) (by first | rfl | (show Value.bool _ = Value.bool _; rw [Value.bool.injEq]; first | exact decide_eq_true (by omega) | exact decide_eq_false (by omega) | assumption | (simp; omega)))
                          case r15g24 => as_aux_lemma =>
                            intro w9 hb
                            refine over_some (ds1 := [123, 131]) (ds2 := []) [(.bool false), (.bool false)] (by kernel_rfl) ?_
                            refine over_nil ?_
                            simp only [putAll, put_lit, List.set_cons_succ, List.set_cons_zero]
                            go_wp2
                            first | exact post_of (by rfl) (by rfl) (Below.refl _ _) (by rfl) | exact rfl
                          case r15g25 => as_aux_lemma =>
                            intro w9 hb
                            refine over_some (ds1 := [132]) (ds2 := []) [(.bool false)] (by kernel_rfl) ?_
                            refine over_nil ?_
                            simp only [putAll, put_lit, List.set_cons_succ, List.set_cons_zero]
                            exact post_skip rfl (by kernel_rfl) (by kernel_rfl) (by kernel_rfl) (by kernel_rfl)
                          case r15g26 => as_aux_lemma =>
                            intro w9 hb
                            refine over_some (ds1 := [132]) (ds2 := []) [(.bool false)] (by kernel_rfl) ?_
                            refine over_nil ?_
                            simp only [putAll, put_lit, List.set_cons_succ, List.set_cons_zero]
                            exact post_skip rfl (by kernel_rfl) (by kernel_rfl) (by kernel_rfl) (by kernel_rfl)
                          case r15g27 => as_aux_lemma =>
                            intro w9 hb
                            refine over_some (ds1 := [132, 133, 134]) (ds2 := []) [(.bool false), undef, undef] (by kernel_rfl) ?_
                            refine over_nil ?_
                            simp only [putAll, put_lit, List.set_cons_succ, List.set_cons_zero]
                            exact post_skip rfl (by kernel_rfl) (by kernel_rfl) (by kernel_rfl) (by kernel_rfl)
                          case r15g28 => as_aux_lemma =>
                            intro w9 hb
                            refine over_some (ds1 := [132, 135]) (ds2 := []) [(.bool false), undef] (by kernel_rfl) ?_
                            refine over_nil ?_
                            simp only [putAll, put_lit, List.set_cons_succ, List.set_cons_zero]
                            exact post_skip rfl (by kernel_rfl) (by kernel_rfl) (by kernel_rfl) (by kernel_rfl)
                          case r15g29 => as_aux_lemma =>
                            intro w9 hb
                            refine over_some (ds1 := [132, 136]) (ds2 := []) [(.bool false), undef] (by kernel_rfl) ?_
                            refine over_nil ?_
                            simp only [putAll, put_lit, List.set_cons_succ, List.set_cons_zero]
                            exact post_skip rfl (by kernel_rfl) (by kernel_rfl) (by kernel_rfl) (by kernel_rfl)
                          case r15g30 => as_aux_lemma =>
                            intro w9 hb
                            refine over_some (ds1 := [132]) (ds2 := []) [(.bool false)] (by kernel_rfl) ?_
                            refine over_nil ?_
                            simp only [putAll, put_lit, List.set_cons_succ, List.set_cons_zero]
                            exact post_skip rfl (by kernel_rfl) (by kernel_rfl) (by kernel_rfl) (by kernel_rfl)
                          case r15g31 => as_aux_lemma =>
                            intro w9 hb
                            refine over_some (ds1 := [132, 138]) (ds2 := []) [(.bool false), undef] (by kernel_rfl) ?_
                            refine over_nil ?_
                            simp only [putAll, put_lit, List.set_cons_succ, List.set_cons_zero]
                            exact post_skip rfl (by kernel_rfl) (by kernel_rfl) (by kernel_rfl) (by kernel_rfl)
                          case r15g32 => as_aux_lemma =>
                            intro w9 hb
                            refine over_some (ds1 := [132, 137, 139]) (ds2 := []) [(.bool false), undef, undef] (by kernel_rfl) ?_
                            refine over_nil ?_
                            simp only [putAll, put_lit, List.set_cons_succ, List.set_cons_zero]
                            exact post_skip rfl (by kernel_rfl) (by kernel_rfl) (by kernel_rfl) (by kernel_rfl)
                          case r15g33 => as_aux_lemma =>
                            intro w9 hb
                            refine over_some (ds1 := [123, 132, 140]) (ds2 := []) [(.bool false), (.bool false), undef] (by kernel_rfl) ?_
                            refine over_nil ?_
                            simp only [putAll, put_lit, List.set_cons_succ, List.set_cons_zero]
                            go_wp2
                            first | exact post_of (by rfl) (by rfl) (Below.refl _ _) (by rfl) | exact rfl
                          case r15g34 => as_aux_lemma =>
                            intro w9 hb
                            refine over_some (ds1 := [114, 123, 141]) (ds2 := []) [(.bool true), (.bool false), (.bool false)] (by kernel_rfl) ?_
                            refine over_nil ?_
                            simp only [putAll, put_lit, List.set_cons_succ, List.set_cons_zero]
                            go_wp2
                            first | exact post_of (by rfl) (by rfl) (Below.refl _ _) (by rfl) | exact rfl
              case rest =>
                obtain ⟨rfl, hbc⟩ := hcut
                replace HV := Lib.hid (HV.out.next hbc.out)
                replace K14 := Lib.hid (K14.out.next hbc.out)
                replace HP := Lib.hid (HP.out.next hbc.out)
                replace B := Lib.hid (thn B.out hbc.out)
                clear hbc FLX K14
                go_upto_region 18 with fail
                go_cut [156] from 38 to 191 (fun v w' => ∃ q : Bool, v = .bool q ∧ Hid (q = true → j < n3) ∧ w' = wc)
                case first =>
                  as_aux_lemma =>
                    by_cases d1 : j < n3
                    rotate_left
                    · have j3 : ¬ ((j : Int) < (n3 : Int)) := by omega
                      go_wp2; go_meet; case rel => exact ⟨false, by first | rfl | simp, fun h => (by cases h), rfl⟩
                    · skip
                      obtain ⟨b3, off3, u, rfl, _, _, cu⟩ := sl_at (HS3.out.next B.out) d1
                      obtain ⟨dv, hdv⟩ : ∃ v : Int, (u.toNat : Int) = v := ⟨_, rfl⟩
                      have dv0 : 0 ≤ dv ∧ dv ≤ 255 := by have := u.toNat_lt; omega
                      rw [hdv] at cu
                      clear hdv
                      have j3 : (j : Int) < (n3 : Int) := by omega
                      obtain ⟨rr, hrr⟩ : ∃ r, Int.tmod dv 3 = r := ⟨_, rfl⟩
                      by_cases d2 : rr = 0
                      · have d2b : (rr == 0) = true := by simpa using d2
                        clear d2
                        go_wp2; go_meet; case rel => exact ⟨true, by first | rfl | simp, fun _ => d1, rfl⟩
                      · have d2b : (rr == 0) = false := by simpa using d2
                        clear d2
                        go_wp2; go_meet; case rel => exact ⟨false, by first | rfl | simp, fun h => (by cases h), rfl⟩
                case rest =>
                  obtain ⟨q, rfl, HQ, rfl⟩ := hcut
                  go_upto_if 156 with fail
                  go_cut [12] from 38 to 191 (fun v w' => ∃ (A : Option Addr) (n c : Nat) (zs : List (Dsc × Hd)), v = .slice A n c ∧ Hid (Vw w' A n c zs self rm) ∧ Hid (Below wc.heap.size wc w'))
                  case first =>
                    as_aux_lemma =>
                      cases q
                      · go_wp2; go_meet; case rel => exact ⟨_, _, _, _, rfl, HP, Below.refl _ _⟩
                      · skip
                        have d1 := HQ.out (by trivial)
                        obtain ⟨b3, off3, u, rfl, _, _, cu⟩ := sl_at (HS3.out.next B.out) d1
                        obtain ⟨dv, hdv⟩ : ∃ v : Int, (u.toNat : Int) = v := ⟨_, rfl⟩
                        have dv0 : 0 ≤ dv ∧ dv ≤ 255 := by have := u.toNat_lt; omega
                        rw [hdv] at cu
                        clear hdv
                        have j3 : (j : Int) < (n3 : Int) := by omega
                        obtain ⟨m3, hm3⟩ : ∃ m, Int.tdiv dv 3 = m := ⟨_, rfl⟩
                        have HM3 : Hid (byt m3) := by unfold Hid; rw [← hm3]; exact ⟨Int.tdiv_nonneg dv0.1 (by decide), by have := Int.tdiv_le_self (a := dv) 3 dv0.1; omega⟩
                        have hmm : m3 % 256 = m3 := by have := HM3.out; omega
                        have bu : b3 < wc.heap.size := World.block_lt_of_cell? wc _ cu
                        go_wp2_with fail
                        refine (HDD.out.drop A6 n6 c6 ps m3 wc HP.out.sds (HP.out.fit (by omega)) ⟨self, rm, HP.out.right⟩ HM3.out).mono ?_
                        rintro e w20 ⟨A7, n7, c7, zs, rfl, m7, d7, b7⟩
                        have H7 : Hid (Vw w20 A7 n7 c7 zs self rm) := HP.out.drop d7.sds m7
                        have M7 := Lib.hid m7
                        replace cu := (b7.cell (p := ⟨b3, off3 + j, none⟩) bu).trans cu
                        have B7 := Lib.hid b7
                        clear d7 m7 b7
                        go_wp2_with fail
                        have hc := HDD.out.find A7 n7 c7 zs m3 w20 H7.out.sds (H7.out.fit (by omega)) ⟨self, rm, H7.out.right⟩ HM3.out
                        rw [show findI (zs.map (·.1)) m3 = -1 from by rw [M7.out]; exact find_drop _ _] at hc
                        refine hc.mono ?_
                        clear hc
                        rintro e w21 ⟨rfl, b8⟩
                        replace H7 := Lib.hid (H7.out.next b8)
                        replace B7 := Lib.hid (thn B7.out b8)
                        clear b8
                        go_wp2; go_meet; case rel => exact ⟨_, _, _, _, rfl, H7, B7⟩
                  case rest =>
                    clear HP HQ
                    obtain ⟨A7, n7, c7, ps7, rfl, HP, hbc⟩ := hcut
                    replace B := Lib.hid (thn B.out hbc.out)
                    clear hbc
                    go_upto_region 22 with fail
                    go_cut [183] from 38 to 191 (fun v w' => ∃ q : Bool, v = .bool q ∧ Hid (q = true → j < n3) ∧ w' = wc)
                    case first =>
                      as_aux_lemma =>
                        by_cases d1 : j < n3
                        rotate_left
                        · have j3 : ¬ ((j : Int) < (n3 : Int)) := by omega
                          go_wp2; go_meet; case rel => exact ⟨false, by first | rfl | simp, fun h => (by cases h), rfl⟩
                        · skip
                          obtain ⟨b3, off3, u, rfl, _, _, cu⟩ := sl_at (HS3.out.next B.out) d1
                          obtain ⟨dv, hdv⟩ : ∃ v : Int, (u.toNat : Int) = v := ⟨_, rfl⟩
                          have dv0 : 0 ≤ dv ∧ dv ≤ 255 := by have := u.toNat_lt; omega
                          rw [hdv] at cu
                          clear hdv
                          have j3 : (j : Int) < (n3 : Int) := by omega
                          obtain ⟨rr, hrr⟩ : ∃ r, Int.tmod dv 3 = r := ⟨_, rfl⟩
                          by_cases d2 : rr = 1
                          · have d2b : (rr == 1) = true := by simpa using d2
                            clear d2
                            go_wp2; go_meet; case rel => exact ⟨true, by first | rfl | simp, fun _ => d1, rfl⟩
                          · have d2b : (rr == 1) = false := by simpa using d2
                            clear d2
                            go_wp2; go_meet; case rel => exact ⟨false, by first | rfl | simp, fun h => (by cases h), rfl⟩
                    case rest =>
                      obtain ⟨q, rfl, HQ, rfl⟩ := hcut
                      go_upto_if 183 with fail
                      go_cut [12] from 38 to 191 (fun v w' => ∃ (A : Option Addr) (n c : Nat) (zs : List (Dsc × Hd)), v = .slice A n c ∧ Hid (Vw w' A n c zs self rm) ∧ Hid (Below wc.heap.size wc w'))
                      case first =>
                        as_aux_lemma =>
                          cases q
                          · go_wp2; go_meet; case rel => exact ⟨_, _, _, _, rfl, HP, Below.refl _ _⟩
                          · skip
                            go_wp2_with fail
                            refine (HDD.out.older A7 n7 c7 ps7 wc HP.out.sds (HP.out.fit (by omega)) ⟨self, rm, HP.out.right⟩).mono ?_
                            rintro e w20 ⟨A8, n8, c8, zs, rfl, m8, d8, b8⟩
                            have H8 : Hid (Vw w20 A8 n8 c8 zs self rm) := HP.out.older d8.sds m8
                            have B8 := Lib.hid b8
                            clear d8 m8 b8
                            go_wp2; go_meet; case rel => exact ⟨_, _, _, _, rfl, H8, B8⟩
                      case rest =>
                        clear HP HQ
                        obtain ⟨A8, n8, c8, ps8, rfl, HP, hbc⟩ := hcut
                        replace B := Lib.hid (thn B.out hbc.out)
                        clear hbc
                        go_wp2_with fail
                        have hc := HDD.out.right A8 n8 c8 ps8 self rm wc HP.out.sds (HP.out.fit (by omega)) HSF.out (by omega) (by omega)
                        rw [show decide (RightD (ps8.map (·.1)) self rm) = true from decide_eq_true HP.out.right] at hc
                        refine hc.mono ?_
                        clear hc
                        rintro e w30 ⟨rfl, b5⟩
                        replace HP := Lib.hid (HP.out.next b5)
                        replace B := Lib.hid (thn B.out b5)
                        clear b5
                        go_wp2
                        go_roundw
                        case rel => exact ⟨j + 1, A8, n8, c8, ps8, by omega, rfl, by go_num, HP, B⟩
                        case measure => simp [intOf]; omega
end Go.Proofs.Ytlkjlmmdllkdcaa
