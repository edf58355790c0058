/- Layer 10: CyclonAsk. -/
import Derived.Test.YtgbnnllbpidlfaaYt
import Derived.Test.YtgbnnllbpidlfaaRaw
import Derived.Test.YtgbnnllbpidlfaaReg6
namespace Go.Proofs.Ytgbnnllbpidlfaa
open Go.RowKit
set_option linter.unusedVariables false
abbrev meA (self age : Int) : Dsc := (self, 3, age, [])
abbrev hd0 : Hd := (none, 0, 0)
def tyL10 (ds : List Dsc) : Ty := .pred (fun v u => ∃ (A : Option Addr) (n c : Nat) (xs : List (Dsc × Hd)), v = .slice A n c ∧ xs.map (·.1) = ds ∧ Sds u A n c xs) (fun _ _ _ ⟨A, n, c, xs, h1, h2, h3⟩ hb => ⟨A, n, c, xs, h1, h2, h3.next hb⟩)
theorem map_cons1 {xs : List (Dsc × Hd)} {d : Dsc} {t : List Dsc} (h : xs.map (·.1) = d :: t) : ∃ hd ys, xs = (d, hd) :: ys ∧ ys.map (·.1) = t := by
  rcases xs with _ | ⟨⟨x, hx⟩, ys⟩ <;> simp at h
  obtain ⟨rfl, h⟩ := h
  exact ⟨hx, ys, rfl, h⟩
set_option maxRecDepth 100000 in
set_option maxHeartbeats 40000000 in
theorem asklaw_walk (A : Option Addr) (n c : Nat) (xs : List (Dsc × Hd)) (self age many : Int) (Ad : Option Addr) (nd cd : Nat) (rs : List Int) (w : World) (h : Sds w A n c xs) (hR : ∀ x ∈ xs, dscR x.1) (hse : byt self) (hag : byt age) (hmn : many ≤ 9223372036854775807) (hd : Su w Ad nd cd rs) (hr : drawR rs) :
    Calls Try.prog 6 #[.slice A n c, .int .u8 self, .int .u8 age, .int .i64 many, .slice Ad nd cd] w fun e w' => e = .returned (.bool true) ∧ Below w.heap.size w w' := by
  have HL := Lib.hid h.len
  have HR := Lib.hid hR
  have HS := Lib.hid h
  have HD := Lib.hid hd
  have HDR := Lib.hid hr
  have HSF := Lib.hid hse
  have HAG := Lib.hid hag
  have HMN := Lib.hid hmn
  have B := Lib.hid (Below.refl w.heap.size w)
  obtain ⟨f1, HF1⟩ : ∃ f, Hid (fewB (xs.map (·.1)) = f) := ⟨_, rfl⟩
  clear h hR hse hag hd hr
  go_enter Try.func6, Try.ntmps6
  go_wp2_with fail
  have hc := few_any A n c xs w HS.out
  rw [HF1.out] at hc
  refine hc.mono ?_
  clear hc
  rintro e w1 ⟨rfl, b5⟩
  replace B := Lib.hid (thn B.out b5)
  clear b5
  cases f1
  · skip
    go_wp2_with fail
    have hc := awake_any w1
    refine hc.mono ?_
    clear hc
    rintro e w2 ⟨rfl, b5⟩
    replace B := Lib.hid (thn B.out b5)
    clear b5
    go_wp2
    go_ret
    exact ⟨rfl, B.out⟩
  · skip
    by_cases hnd : (30 : Int) < (nd : Int)
    · skip
      go_wp2_with fail
      have hc := awake_any w1
      refine hc.mono ?_
      clear hc
      rintro e w2 ⟨rfl, b5⟩
      replace B := Lib.hid (thn B.out b5)
      clear b5
      go_wp2
      go_ret
      exact ⟨rfl, B.out⟩
    · skip
      have HFX := Lib.hid (few_fit HF1.out HL.out HR.out)
      go_wp2_with fail
      have hc := view_any A n c xs self 20 w1 (HS.out.next B.out) HR.out (by decide)
      refine hc.mono ?_
      clear hc
      rintro e w2 ⟨Av, nv, cv, vs, rfl, hv, sv, b5⟩
      have SV := Lib.hid (sv.sds)
      have HV := Lib.hid (hv)
      replace B := Lib.hid (thn B.out b5)
      clear b5
      clear sv hv
      have HFV : Hid (Fit nv vs) := view_fit HV.out HFX.out (by omega) SV.out.len
      have HRV : Hid (RightD (vs.map (·.1)) self 20) := HV.out.right
      have HLV := Lib.hid SV.out.len
      go_upto_region 5 with fail
      have hbl := below_lit w2 (.cells #[.int .u8 (meA self age).1, .int .u16 (meA self age).2.1, .int .u8 (meA self age).2.2.1, .slice hd0.1 hd0.2.1 hd0.2.2] 34)
      have Q := Lib.hid (DBlk.new w2 (meA self age) hd0)
      replace SV := Lib.hid (SV.out.next hbl)
      replace B := Lib.hid (thn B.out hbl)
      clear hbl
      dsimp only [meA, hd0] at *
      generalize w2.alloc _ = w3 at *
      obtain ⟨q, hq⟩ : ∃ q, w2.heap.size = q := ⟨_, rfl⟩
      rw [hq] at Q ⊢
      clear hq
      have F1M : Hid (Fit1 (self, 3, age, [])) := ⟨⟨HSF.out, ⟨by show (0 : Int) ≤ 3; decide, by show (3 : Int) ≤ 65535; decide⟩, HAG.out⟩, by show 0 ≤ 1000; decide⟩
      by_cases h0 : nv = 0
      · skip
        have HAK : Hid (askD (vs.map (·.1)) (self, 3, age, []) many rs = (0, [], false)) := ask_no (.inl (by rw [List.eq_nil_of_length_eq_zero (HLV.out.symm.trans h0)]; rfl))
        have v0 : ¬ (0 : Int) < (nv : Int) := by omega
        clear h0
        obtain ⟨Q0, Q1, Q2, Q3⟩ := Q.out.cells
        go_wp2_with fail
        have hc := ask_any Av nv cv vs (self, 3, age, []) (none, 0, 0) many Ad nd cd rs w3 SV.out HFV.out (fl_nil _ _ rfl) F1M.out HMN.out (Su.next HD.out B.out) HDR.out
        rw [HAK.out] at hc
        refine hc.mono ?_
        clear hc
        rintro e w4 ⟨Aa, na, ca, za, rfl, ma, da, b5⟩
        clear Q0 Q1 Q2 Q3
        replace SV := Lib.hid (SV.out.next b5)
        replace Q := Lib.hid (Q.out.next b5)
        replace B := Lib.hid (thn B.out b5)
        clear b5
        obtain rfl : na = 0 := by have h1 := da.len; have h2 := congrArg List.length ma; rw [List.length_map] at h2; simp at h2; rw [h1, h2]; rfl
        clear ma da
        go_wp2_with fail
        have hc := awake_any w4
        refine hc.mono ?_
        clear hc
        rintro e w5 ⟨rfl, b5⟩
        replace SV := Lib.hid (SV.out.next b5)
        replace B := Lib.hid (thn B.out b5)
        clear b5
        go_wp2
        go_ret
        exact ⟨rfl, B.out⟩
      · skip
        have v0 : (0 : Int) < (nv : Int) := by omega
        by_cases h1 : many < 1
        · skip
          have HAK : Hid (askD (vs.map (·.1)) (self, 3, age, []) many rs = (0, [], false)) := ask_no (.inr h1)
          have m0 : ¬ 0 < many := by omega
          clear h1
          obtain ⟨Q0, Q1, Q2, Q3⟩ := Q.out.cells
          go_wp2_with fail
          have hc := ask_any Av nv cv vs (self, 3, age, []) (none, 0, 0) many Ad nd cd rs w3 SV.out HFV.out (fl_nil _ _ rfl) F1M.out HMN.out (Su.next HD.out B.out) HDR.out
          rw [HAK.out] at hc
          refine hc.mono ?_
          clear hc
          rintro e w4 ⟨Aa, na, ca, za, rfl, ma, da, b5⟩
          clear Q0 Q1 Q2 Q3
          replace SV := Lib.hid (SV.out.next b5)
          replace Q := Lib.hid (Q.out.next b5)
          replace B := Lib.hid (thn B.out b5)
          clear b5
          obtain rfl : na = 0 := by have h1 := da.len; have h2 := congrArg List.length ma; rw [List.length_map] at h2; simp at h2; rw [h1, h2]; rfl
          clear ma da
          go_wp2_with fail
          have hc := awake_any w4
          refine hc.mono ?_
          clear hc
          rintro e w5 ⟨rfl, b5⟩
          replace SV := Lib.hid (SV.out.next b5)
          replace B := Lib.hid (thn B.out b5)
          clear b5
          go_wp2
          go_ret
          exact ⟨rfl, B.out⟩
        · skip
          have m0 : 0 < many := by omega
          have hne : vs.map (·.1) ≠ [] := fun e => h0 (by rw [HLV.out, ← List.length_map (f := (·.1)), e]; rfl)
          obtain ⟨kk, d, ho, hd, hA⟩ := ask_yes (self, 3, age, []) rs hne (by omega : 1 ≤ many)
          have HAK := Lib.hid hA
          have HO := Lib.hid ho
          have HKD := Lib.hid hd
          have HFK := Lib.hid (findI_rise HRV.out.2.1 hd)
          clear hA ho hd hne h0 h1
          have hkn : kk < nv := by have := (List.getElem?_eq_some_iff.1 HKD.out).1; rw [List.length_map] at this; rw [HLV.out]; exact this
          have hk0 : (0 : Int) ≤ (kk : Int) := by omega
          obtain ⟨Q0, Q1, Q2, Q3⟩ := Q.out.cells
          go_wp2_with fail
          have hc := ask_any Av nv cv vs (self, 3, age, []) (none, 0, 0) many Ad nd cd rs w3 SV.out HFV.out (fl_nil _ _ rfl) F1M.out HMN.out (Su.next HD.out B.out) HDR.out
          rw [HAK.out] at hc
          refine hc.mono ?_
          clear hc
          rintro e w4 ⟨Aa, na, ca, za, rfl, ma, da, b5⟩
          clear Q0 Q1 Q2 Q3
          have Sa := Lib.hid (da.sds)
          replace SV := Lib.hid (SV.out.next b5)
          replace Q := Lib.hid (Q.out.next b5)
          replace B := Lib.hid (thn B.out b5)
          clear b5
          dsimp only at ma
          obtain ⟨hz, zt, rfl, mt⟩ := map_cons1 ma
          have MT := Lib.hid mt
          have hna : na = 1 + zt.length := by have := da.len; rw [List.length_cons] at this; omega
          have hpl := pick_len rs (dropD (vs.map (·.1)) d.1) (many - 1)
          rw [← mt, List.length_map] at hpl
          have na1 : (1 : Int) ≤ (na : Int) := by omega
          have na2 : (na : Int) ≤ many := by omega
          have na3 : na ≤ 100 := by have h5 := pick_le rs (dropD (vs.map (·.1)) d.1) (many - 1); rw [← mt, List.length_map] at h5; have h6 := drop_le (ds := vs.map (·.1)) d.1; rw [List.length_map] at h6; have := HRV.out.2.2.2; rw [List.length_map] at this; omega
          clear hpl ma da mt hna
          have HDN : Hid (byt d.1) := by obtain ⟨x, hx, rfl⟩ := List.mem_map.1 (List.mem_of_getElem? HKD.out); exact (HFV.out.all x hx).1.1
          go_wp2_with fail
          have hc := find_any Av nv cv vs d.1 w4 SV.out HFV.out ⟨self, 20, HRV.out⟩
          rw [HFK.out] at hc
          refine hc.mono ?_
          clear hc
          rintro e w5 ⟨rfl, b5⟩
          replace SV := Lib.hid (SV.out.next b5)
          replace Sa := Lib.hid (Sa.out.next b5)
          replace B := Lib.hid (thn B.out b5)
          clear b5
          go_wp2_with fail
          have hc := oldest_any Av nv cv vs w5 SV.out
          rw [HO.out] at hc
          refine hc.mono ?_
          clear hc
          rintro e w6 ⟨rfl, b5⟩
          replace SV := Lib.hid (SV.out.next b5)
          replace Sa := Lib.hid (Sa.out.next b5)
          replace B := Lib.hid (thn B.out b5)
          clear b5
          obtain ⟨ba, oa, x, rfl, hb, hx, hxm, c0, c1, c2', c3'⟩ := Sa.out.at_ (j := 0) (by omega)
          obtain rfl := Option.some.inj hx
          clear hx hxm hb
          rw [Nat.zero_mul, Nat.add_zero] at c0 c1 c2' c3'
          dsimp only at c0 c1 c2' c3'
          go_upto_region 13 with fail
          obtain ⟨At, htl, st⟩ := Sa.out.sn.tail (lo := 1) (by omega) 22 34 Try.underlying22 rfl (fun w' => Try.sizeOf34 w') .i64 1 rfl
          rw [show (dcs (((self, 3, 0, []), hz) :: zt)).drop (1 * 4) = dcs zt from dcs_drop (((self, 3, 0, []), hz) :: zt) 1] at st
          have LT : Hid (Sds w6 At (na - 1) (ca - 1) zt) := ⟨st, fun z hz => Sa.out.fl z (List.mem_cons_of_mem _ hz)⟩
          clear st c0 c1 c2' c3'
          refine wp_region_typed 12 [(106, .val (.slice (some ⟨ba, oa, none⟩) na ca)), (107, .val (.slice At (na - 1) (ca - 1))), (108, .val (.slice Av nv cv)), (109, .val (.int .i64 many)), (110, .val (.int .i64 (many - 1))), (111, .val (.int .u8 d.1)), (112, .val (.slice Ad nd cd)), (113, tyL10 (pickD (dropD (vs.map (·.1)) d.1) (many - 1) rs)), (114, .val (.bool true)), (115, .val (.bool true)), (116, .val (.bool true)), (117, .val (.bool true))]
            [[], [106], [], [], [109], [], [], [108, 110, 111, 112], [107, 113], [114], [115], [115, 116]] (by kernel_rfl) (by kernel_rfl) ?_ ?_
          rotate_left
          · intro v7 hb
            simp only [List.take_succ_cons, List.take_zero, List.drop_succ_cons, List.drop_zero]
            refine over_ds (ds := [106, 107, 108, 109, 110, 111, 112, 113, 114, 115, 116, 117]) (by kernel_rfl) ?_
            refine over_some (ds1 := [106, 107, 108, 109, 110, 111, 112]) (ds2 := [113, 114, 115, 116, 117]) [(.slice (some ⟨ba, oa, none⟩) na ca), (.slice At (na - 1) (ca - 1)), (.slice Av nv cv), (.int .i64 many), (.int .i64 (many - 1)), (.int .u8 d.1), (.slice Ad nd cd)] (by kernel_rfl) ?_
            refine over_pred rfl ?_
            rintro _ ⟨A113, n113, c113, p113, rfl, m113, s113⟩
            refine over_some (ds1 := [114, 115, 116, 117]) (ds2 := []) [(.bool true), (.bool true), (.bool true), (.bool true)] (by kernel_rfl) ?_
            refine over_nil ?_
            simp only [putAll, put_lit, List.set_cons_succ, List.set_cons_zero]
            replace SV := Lib.hid (SV.out.next hb)
            replace Sa := Lib.hid (Sa.out.next hb)
            replace B := Lib.hid (thn B.out hb)
            clear hb
            go_wp2
            go_ret
            exact ⟨rfl, B.out⟩
          simp only [List.take_succ_cons, List.take_zero]
          refine ⟨?r13g0, ?r13g1, ?r13g2, ?r13g3, ?r13g4, ?r13g5, ?r13g6, ?r13g7, ?r13g8, ?r13g9, ?r13g10, ?r13g11, trivial⟩
          case r13g0 =>
            intro w9 hb
            refine over_nil ?_
            go_wp2
            first | exact post_of (by rfl) (by rfl) (Below.refl _ _) (by rfl) | exact rfl
          case r13g1 =>
            intro w9 hb
            refine over_some (ds1 := [106]) (ds2 := []) [(.slice (some ⟨ba, oa, none⟩) na ca)] (by kernel_rfl) ?_
            refine over_nil ?_
            simp only [putAll, put_lit, List.set_cons_succ, List.set_cons_zero]
            go_wp2
            first | exact post_of (by rfl) (by rfl) (Below.refl _ _) (by rfl) | exact rfl
          case r13g2 =>
            intro w9 hb
            refine over_nil ?_
            go_wp2
            first | exact post_of (by rfl) (by rfl) (Below.refl _ _) (by rfl) | exact rfl
          case r13g3 =>
            intro w9 hb
            refine over_nil ?_
            go_wp2
            first | exact post_of (by rfl) (by rfl) (Below.refl _ _) (by rfl) | exact rfl
          case r13g4 =>
            intro w9 hb
            refine over_some (ds1 := [109]) (ds2 := []) [(.int .i64 many)] (by kernel_rfl) ?_
            refine over_nil ?_
            simp only [putAll, put_lit, List.set_cons_succ, List.set_cons_zero]
            go_wp2
            first | exact post_of (by rfl) (by rfl) (Below.refl _ _) (by rfl) | exact rfl
          case r13g5 =>
            intro w9 hb
            refine over_nil ?_
            go_wp2
            first | exact post_of (by rfl) (by rfl) (Below.refl _ _) (by rfl) | exact rfl
          case r13g6 =>
            intro w9 hb
            refine over_nil ?_
            go_wp2
            first | exact post_of (by rfl) (by rfl) (Below.refl _ _) (by rfl) | exact rfl
          case r13g7 =>
            intro w9 hb
            refine over_some (ds1 := [108, 110, 111, 112]) (ds2 := []) [(.slice Av nv cv), (.int .i64 (many - 1)), (.int .u8 d.1), (.slice Ad nd cd)] (by kernel_rfl) ?_
            refine over_nil ?_
            simp only [putAll, put_lit, List.set_cons_succ, List.set_cons_zero]
            go_wp2_with fail
            refine (pick_any Av nv cv vs (many - 1) d.1 Ad nd cd rs w9 (SV.out.next hb) HFV.out (Su.next HD.out (thn B.out hb)) HDR.out).mono ?_
            rintro e w8 ⟨A8, n8, c8, z8, rfl, m8, s8, b6⟩
            have S8 := Lib.hid s8.sds
            have M8 := Lib.hid m8
            clear s8 m8
            go_wp2
            exact post_of (by rfl) (by rfl) b6 (by exact ⟨_, _, _, _, rfl, M8.out, S8.out⟩)
          case r13g8 =>
            intro w9 hb
            refine over_some (ds1 := [107]) (ds2 := [113]) [(.slice At (na - 1) (ca - 1))] (by kernel_rfl) ?_
            refine over_pred rfl ?_
            rintro _ ⟨A113, n113, c113, p113, rfl, m113, s113⟩
            refine over_nil ?_
            simp only [putAll, put_lit, List.set_cons_succ, List.set_cons_zero]
            go_wp2_with fail
            have hc2 := descs_any At (na - 1) (ca - 1) zt A113 n113 c113 p113 w9 (LT.out.next hb) s113
            rw [show decide (zt.map (·.1) = p113.map (·.1)) = true from decide_eq_true (MT.out.trans m113.symm)] at hc2
            refine hc2.mono ?_
            clear hc2
            rintro e w8 ⟨rfl, b6⟩
            go_wp2
            exact post_of (by rfl) (by rfl) b6 (by rfl)
          case r13g9 =>
            intro w9 hb
            refine over_some (ds1 := [114]) (ds2 := []) [(.bool true)] (by kernel_rfl) ?_
            refine over_nil ?_
            simp only [putAll, put_lit, List.set_cons_succ, List.set_cons_zero]
            go_wp2
            first | exact post_of (by rfl) (by rfl) (Below.refl _ _) (by rfl) | exact rfl
          case r13g10 =>
            intro w9 hb
            refine over_some (ds1 := [115]) (ds2 := []) [(.bool true)] (by kernel_rfl) ?_
            refine over_nil ?_
            simp only [putAll, put_lit, List.set_cons_succ, List.set_cons_zero]
            go_wp2_with fail
            have hc2 := awake_any w9
            refine hc2.mono ?_
            clear hc2
            rintro e w8 ⟨rfl, b6⟩
            go_wp2
            exact post_of (by rfl) (by rfl) b6 (by rfl)
          case r13g11 =>
            intro w9 hb
            refine over_some (ds1 := [115, 116]) (ds2 := []) [(.bool true), (.bool true)] (by kernel_rfl) ?_
            refine over_nil ?_
            simp only [putAll, put_lit, List.set_cons_succ, List.set_cons_zero]
            go_wp2
            first | exact post_of (by rfl) (by rfl) (Below.refl _ _) (by rfl) | exact rfl
end Go.Proofs.Ytgbnnllbpidlfaa
