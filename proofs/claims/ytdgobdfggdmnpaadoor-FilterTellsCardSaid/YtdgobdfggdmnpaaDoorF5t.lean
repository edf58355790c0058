/- Layer 5: FilterTells. -/
import Derived.Test.YtdgobdfggdmnpaaDoorFq
namespace Go.Proofs.YtdgobdfggdmnpaaDoor
open Go.RowKit
set_option linter.unusedVariables false
theorem normF_in {ps fs : List (Int × Int)} (hp : ∀ p ∈ ps, inR p) (hf : ∀ p ∈ fs, inR p) : ∀ p ∈ normF ps fs, inR p := by
  unfold normF
  split
  · intro p h; cases h
  · split
    · exact meetF_in' hf hp
    · intro p h; cases h
set_option maxHeartbeats 20000000 in
theorem ftells_walk (A0 : Option Addr) (n0 c0 : Nat) (ps : List (Int × Int)) (A1 : Option Addr) (n1 c1 : Nat) (es : List (Int × Int)) (A2 : Option Addr) (n2 c2 : Nat) (bs : List (Int × Int)) (A3 : Option Addr) (n3 c3 : Nat) (xs : List Int) (w : World) (hT : Tab w) (i0 : ∀ p ∈ ps, inR p) (i1 : ∀ p ∈ es, inR p) (i2 : ∀ p ∈ bs, inR p)
    (h0 : Sp w w.heap.size A0 n0 c0 ps) (h1 : Sp w w.heap.size A1 n1 c1 es) (h2 : Sp w w.heap.size A2 n2 c2 bs) (h3 : Si w w.heap.size A3 n3 c3 xs) :
    Calls Tryd.prog 3 #[.slice A0 n0 c0, .slice A1 n1 c1, .slice A2 n2 c2, .slice A3 n3 c3] w fun e w' => e = .returned (.bool true) ∧ Below w.heap.size w w' := by
  have HT := Lib.hid hT
  have B := Lib.hid (Below.refl w.heap.size w)
  have S0 := Lib.hid h0
  have S1 := Lib.hid h1
  have S2 := Lib.hid h2
  have S3 := Lib.hid h3
  have I0 := Lib.hid i0
  have I1 := Lib.hid i1
  have I2 := Lib.hid i2
  have IM := Lib.hid (meetF_in' i1 i2)
  have IN := Lib.hid (normF_in i0 i1)
  have HM := Lib.hid (same_self (meetF es bs))
  have HN := Lib.hid (same_self (normF ps es))
  have HE := Lib.hid (same_self es)
  obtain ⟨m, Hm⟩ : ∃ m, Hid (meetF es bs = m) := ⟨_, rfl⟩
  obtain ⟨nf, Hn⟩ : ∃ m, Hid (normF ps es = m) := ⟨_, rfl⟩
  obtain ⟨ne, He⟩ : ∃ m, Hid (normE ps es = m) := ⟨_, rfl⟩
  rw [Hm.out] at HM IM
  rw [Hn.out] at HN IN
  obtain ⟨a, Ha⟩ : ∃ x, Hid (matchF es xs = x) := ⟨_, rfl⟩
  obtain ⟨b, Hb⟩ : ∃ x, Hid (coversF es bs = x) := ⟨_, rfl⟩
  obtain ⟨c, Hc⟩ : ∃ x, Hid (sameF es bs = x) := ⟨_, rfl⟩
  obtain ⟨d, Hd⟩ : ∃ x, Hid (rightF ps es = x) := ⟨_, rfl⟩
  clear hT h0 h1 h2 h3 i0 i1 i2
  by_cases hn0 : 8 < n0
  · have hn0' : (8 : Int) < n0 := by omega
    go_enter Tryd.func3, Tryd.ntmps3
    go_wp2_with fail
    refine (awake_any w HT.out).mono ?_
    rintro e w1 ⟨rfl, b5⟩
    replace B := Lib.hid (thn B.out b5)
    clear b5
    go_wp2
    go_ret
    exact ⟨rfl, B.out⟩
  have hn0' : (n0 : Int) ≤ 8 := by omega
  have hm0 : n0 ≤ 1000000 := by omega
  obtain ⟨z, HZ⟩ : ∃ z, Hid ((decide (n1 ≤ 8) && decide (n2 ≤ 8) && decide (n3 ≤ 8)) = z) := ⟨_, rfl⟩
  have HFw := few_any A1 n1 c1 A2 n2 c2 A3 n3 c3 w
  rw [HZ.out] at HFw
  replace HFw := Lib.hid HFw
  cases z
  · go_enter Tryd.func3, Tryd.ntmps3
    go_wp2_with fail
    refine HFw.out.mono ?_
    rintro e _ ⟨rfl, rfl⟩
    go_wp2_with fail
    refine (awake_any w HT.out).mono ?_
    rintro e w1 ⟨rfl, b5⟩
    replace B := Lib.hid (thn B.out b5)
    clear b5
    go_wp2
    go_ret
    exact ⟨rfl, B.out⟩
  · have hn8 : n1 ≤ 8 ∧ n2 ≤ 8 := by have := HZ.out; simp only [Bool.and_eq_true, decide_eq_true_eq] at this; exact this.1
    have hn1 : n1 ≤ 1000000 := by omega
    clear HZ
    have na : ∀ w', (binOp .neq 4 (.bool a) (.bool a)).run Tryd.prog w' = .ok (.bool false) w' := fun w' => (neq_bool a a w').trans (by simp)
    have nb : ∀ w', (binOp .neq 4 (.bool b) (.bool b)).run Tryd.prog w' = .ok (.bool false) w' := fun w' => (neq_bool b b w').trans (by simp)
    have nc : ∀ w', (binOp .neq 4 (.bool c) (.bool c)).run Tryd.prog w' = .ok (.bool false) w' := fun w' => (neq_bool c c w').trans (by simp)
    obtain ⟨r, HR⟩ : ∃ r, Hid (rightB ps = r) := ⟨_, rfl⟩
    go_enter Tryd.func3, Tryd.ntmps3
    go_wp2_with fail
    refine HFw.out.mono ?_
    rintro e _ ⟨rfl, rfl⟩
    go_wp2_with (at_builtin; go_must (refine wpList_appsx rfl _ _ 24 rfl Tryd.underlying24 infoSpan rfl (by decide) rfl (Ows.lit0 _ 42 2) rfl (S1.out.next (below_lit _ _)) (spl_one _) (by omega) (by decide) (by simp) ?_); intro A4 c4 w1 o5 g5)
    have b5 : Below w.heap.size w w1 := ((Below.refl _ _).alloc (Nat.le_refl _) _).grown g5 (by simp) (Ows.lit0 _ 42 2).lt
    rw [List.nil_append] at o5
    simp only [Nat.zero_add] at o5 ⊢
    have S4 := Lib.hid o5
    clear o5 g5
    replace S0 := Lib.hid (S0.out.next b5)
    replace S1 := Lib.hid (S1.out.next b5)
    replace S2 := Lib.hid (S2.out.next b5)
    replace S3 := Lib.hid (S3.out.next b5)
    replace HT := Lib.hid (HT.out.next b5)
    replace B := Lib.hid (thn B.out b5)
    clear b5
    have hc := meetF_any A1 n1 c1 es A2 n2 c2 bs w1 HT.out I1.out I2.out S1.out S2.out hn1
    rw [Hm.out] at hc
    refine hc.mono ?_
    clear hc
    rintro e w2 ⟨A5, c5, rfl, s5, b5⟩
    have S5 := Lib.hid s5
    clear s5
    replace S0 := Lib.hid (S0.out.next b5)
    replace S1 := Lib.hid (S1.out.next b5)
    replace S2 := Lib.hid (S2.out.next b5)
    replace S3 := Lib.hid (S3.out.next b5)
    replace S4 := Lib.hid (S4.out.below b5)
    replace HT := Lib.hid (HT.out.next b5)
    replace B := Lib.hid (thn B.out b5)
    clear b5
    go_wp2_with fail
    have hc := refMeetF_any A1 n1 c1 es A2 n2 c2 bs w2 S1.out S2.out hn1
    rw [Hm.out] at hc
    refine hc.mono ?_
    clear hc
    rintro e w3 ⟨A6, c6, rfl, s6, b5⟩
    have S6 := Lib.hid s6
    clear s6
    replace S0 := Lib.hid (S0.out.next b5)
    replace S1 := Lib.hid (S1.out.next b5)
    replace S2 := Lib.hid (S2.out.next b5)
    replace S3 := Lib.hid (S3.out.next b5)
    replace S4 := Lib.hid (S4.out.below b5)
    replace S5 := Lib.hid (S5.out.next b5)
    replace HT := Lib.hid (HT.out.next b5)
    replace B := Lib.hid (thn B.out b5)
    clear b5
    go_wp2_with fail
    have hc := refSame_any A5 m.length c5 m A6 m.length c6 m w3  S5.out S6.out
    rw [HM.out] at hc
    refine hc.mono ?_
    clear hc
    rintro e w4 ⟨rfl, b5⟩
    replace S0 := Lib.hid (S0.out.next b5)
    replace S1 := Lib.hid (S1.out.next b5)
    replace S2 := Lib.hid (S2.out.next b5)
    replace S3 := Lib.hid (S3.out.next b5)
    replace S4 := Lib.hid (S4.out.below b5)
    replace S5 := Lib.hid (S5.out.next b5)
    replace S6 := Lib.hid (S6.out.next b5)
    replace HT := Lib.hid (HT.out.next b5)
    replace B := Lib.hid (thn B.out b5)
    clear b5
    go_wp2_with fail
    have hc := matchF_any A1 n1 c1 es A3 n3 c3 xs w4 I1.out S1.out S3.out
    rw [Ha.out] at hc
    refine hc.mono ?_
    clear hc
    rintro e w5 ⟨rfl, b5⟩
    replace S0 := Lib.hid (S0.out.next b5)
    replace S1 := Lib.hid (S1.out.next b5)
    replace S2 := Lib.hid (S2.out.next b5)
    replace S3 := Lib.hid (S3.out.next b5)
    replace S4 := Lib.hid (S4.out.below b5)
    replace S5 := Lib.hid (S5.out.next b5)
    replace S6 := Lib.hid (S6.out.next b5)
    replace HT := Lib.hid (HT.out.next b5)
    replace B := Lib.hid (thn B.out b5)
    clear b5
    go_wp2_with fail
    have hc := refMatchF_any A1 n1 c1 es A3 n3 c3 xs w5  S1.out S3.out
    rw [Ha.out] at hc
    refine hc.mono ?_
    clear hc
    rintro e w6 ⟨rfl, b5⟩
    replace S0 := Lib.hid (S0.out.next b5)
    replace S1 := Lib.hid (S1.out.next b5)
    replace S2 := Lib.hid (S2.out.next b5)
    replace S3 := Lib.hid (S3.out.next b5)
    replace S4 := Lib.hid (S4.out.below b5)
    replace S5 := Lib.hid (S5.out.next b5)
    replace S6 := Lib.hid (S6.out.next b5)
    replace HT := Lib.hid (HT.out.next b5)
    replace B := Lib.hid (thn B.out b5)
    clear b5
    go_wp2_with fail
    have hc := coversF_any A1 n1 c1 es A2 n2 c2 bs w6 HT.out I1.out I2.out S1.out S2.out
    rw [Hb.out] at hc
    refine hc.mono ?_
    clear hc
    rintro e w7 ⟨rfl, b5⟩
    replace S0 := Lib.hid (S0.out.next b5)
    replace S1 := Lib.hid (S1.out.next b5)
    replace S2 := Lib.hid (S2.out.next b5)
    replace S3 := Lib.hid (S3.out.next b5)
    replace S4 := Lib.hid (S4.out.below b5)
    replace S5 := Lib.hid (S5.out.next b5)
    replace S6 := Lib.hid (S6.out.next b5)
    replace HT := Lib.hid (HT.out.next b5)
    replace B := Lib.hid (thn B.out b5)
    clear b5
    go_wp2_with fail
    have hc := refCoversF_any A1 n1 c1 es A2 n2 c2 bs w7  S1.out S2.out
    rw [Hb.out] at hc
    refine hc.mono ?_
    clear hc
    rintro e w8 ⟨rfl, b5⟩
    replace S0 := Lib.hid (S0.out.next b5)
    replace S1 := Lib.hid (S1.out.next b5)
    replace S2 := Lib.hid (S2.out.next b5)
    replace S3 := Lib.hid (S3.out.next b5)
    replace S4 := Lib.hid (S4.out.below b5)
    replace S5 := Lib.hid (S5.out.next b5)
    replace S6 := Lib.hid (S6.out.next b5)
    replace HT := Lib.hid (HT.out.next b5)
    replace B := Lib.hid (thn B.out b5)
    clear b5
    go_wp2_with fail
    have hc := sameF_any A1 n1 c1 es A2 n2 c2 bs w8  S1.out S2.out
    rw [Hc.out] at hc
    refine hc.mono ?_
    clear hc
    rintro e w9 ⟨rfl, b5⟩
    replace S0 := Lib.hid (S0.out.next b5)
    replace S1 := Lib.hid (S1.out.next b5)
    replace S2 := Lib.hid (S2.out.next b5)
    replace S3 := Lib.hid (S3.out.next b5)
    replace S4 := Lib.hid (S4.out.below b5)
    replace S5 := Lib.hid (S5.out.next b5)
    replace S6 := Lib.hid (S6.out.next b5)
    replace HT := Lib.hid (HT.out.next b5)
    replace B := Lib.hid (thn B.out b5)
    clear b5
    go_wp2_with fail
    have hc := refSame_any A1 n1 c1 es A2 n2 c2 bs w9  S1.out S2.out
    rw [Hc.out] at hc
    refine hc.mono ?_
    clear hc
    rintro e w10 ⟨rfl, b5⟩
    replace S0 := Lib.hid (S0.out.next b5)
    replace S1 := Lib.hid (S1.out.next b5)
    replace S2 := Lib.hid (S2.out.next b5)
    replace S3 := Lib.hid (S3.out.next b5)
    replace S4 := Lib.hid (S4.out.below b5)
    replace S5 := Lib.hid (S5.out.next b5)
    replace S6 := Lib.hid (S6.out.next b5)
    replace HT := Lib.hid (HT.out.next b5)
    replace B := Lib.hid (thn B.out b5)
    clear b5
    go_wp2_with fail
    have hc := copyF_any A1 n1 c1 es w10 S1.out hn1
    refine hc.mono ?_
    clear hc
    rintro e w11 ⟨A7, c7, rfl, s7, b5⟩
    have S7 := Lib.hid s7
    clear s7
    replace S0 := Lib.hid (S0.out.next b5)
    replace S1 := Lib.hid (S1.out.next b5)
    replace S2 := Lib.hid (S2.out.next b5)
    replace S3 := Lib.hid (S3.out.next b5)
    replace S4 := Lib.hid (S4.out.below b5)
    replace S5 := Lib.hid (S5.out.next b5)
    replace S6 := Lib.hid (S6.out.next b5)
    replace HT := Lib.hid (HT.out.next b5)
    replace B := Lib.hid (thn B.out b5)
    clear b5
    go_wp2_with fail
    have hc := refSame_any A7 es.length c7 es A1 n1 c1 es w11  (Sn.of_own S7.out) S1.out
    rw [HE.out] at hc
    refine hc.mono ?_
    clear hc
    rintro e w12 ⟨rfl, b5⟩
    replace S0 := Lib.hid (S0.out.next b5)
    replace S1 := Lib.hid (S1.out.next b5)
    replace S2 := Lib.hid (S2.out.next b5)
    replace S3 := Lib.hid (S3.out.next b5)
    replace S4 := Lib.hid (S4.out.below b5)
    replace S5 := Lib.hid (S5.out.next b5)
    replace S6 := Lib.hid (S6.out.next b5)
    replace S7 := Lib.hid (S7.out.below b5)
    replace HT := Lib.hid (HT.out.next b5)
    replace B := Lib.hid (thn B.out b5)
    clear b5
    go_wp2_with fail
    have hc := refRight_any A0 n0 c0 w12.heap.size ps w12 S0.out (Nat.le_refl _)
    rw [HR.out] at hc
    refine hc.mono ?_
    clear hc
    rintro e w13 ⟨rfl, b5⟩
    replace S0 := Lib.hid (S0.out.next b5)
    replace S1 := Lib.hid (S1.out.next b5)
    replace S2 := Lib.hid (S2.out.next b5)
    replace S3 := Lib.hid (S3.out.next b5)
    replace S4 := Lib.hid (S4.out.below b5)
    replace S5 := Lib.hid (S5.out.next b5)
    replace S6 := Lib.hid (S6.out.next b5)
    replace S7 := Lib.hid (S7.out.below b5)
    replace HT := Lib.hid (HT.out.next b5)
    replace B := Lib.hid (thn B.out b5)
    clear b5
    cases r
    · skip
      go_wp2_with fail
      refine (awake_any w13 HT.out).mono ?_
      rintro e w14 ⟨rfl, b5⟩
      replace B := Lib.hid (thn B.out b5)
      clear b5
      go_wp2
      go_ret
      exact ⟨rfl, B.out⟩
    · skip
      go_wp2_with fail
      have hc := normalF_any A0 n0 c0 ps A1 n1 c1 es w13 HT.out I0.out I1.out S0.out S1.out hm0
      rw [Hn.out] at hc
      rw [He.out] at hc
      refine hc.mono ?_
      clear hc
      rintro e w14 ⟨A8, c8, rfl, s8, b5⟩
      have S8 := Lib.hid s8
      clear s8
      replace S0 := Lib.hid (S0.out.next b5)
      replace S1 := Lib.hid (S1.out.next b5)
      replace S2 := Lib.hid (S2.out.next b5)
      replace S3 := Lib.hid (S3.out.next b5)
      replace S4 := Lib.hid (S4.out.below b5)
      replace S5 := Lib.hid (S5.out.next b5)
      replace S6 := Lib.hid (S6.out.next b5)
      replace S7 := Lib.hid (S7.out.below b5)
      replace HT := Lib.hid (HT.out.next b5)
      replace B := Lib.hid (thn B.out b5)
      clear b5
      go_wp2_with fail
      have hc := refNormalF_any A0 n0 c0 ps A1 n1 c1 es w14 S0.out S1.out hm0
      rw [Hn.out] at hc
      rw [He.out] at hc
      refine hc.mono ?_
      clear hc
      rintro e w15 ⟨A9, c9, rfl, s9, b5⟩
      have S9 := Lib.hid s9
      clear s9
      replace S0 := Lib.hid (S0.out.next b5)
      replace S1 := Lib.hid (S1.out.next b5)
      replace S2 := Lib.hid (S2.out.next b5)
      replace S3 := Lib.hid (S3.out.next b5)
      replace S4 := Lib.hid (S4.out.below b5)
      replace S5 := Lib.hid (S5.out.next b5)
      replace S6 := Lib.hid (S6.out.next b5)
      replace S7 := Lib.hid (S7.out.below b5)
      replace S8 := Lib.hid (S8.out.next b5)
      replace HT := Lib.hid (HT.out.next b5)
      replace B := Lib.hid (thn B.out b5)
      clear b5
      go_wp2_with fail
      have hc := rightF_any A0 n0 c0 ps A1 n1 c1 es w15 HT.out I0.out I1.out S0.out S1.out
      rw [Hd.out] at hc
      refine hc.mono ?_
      clear hc
      rintro e w16 ⟨rfl, b5⟩
      replace S0 := Lib.hid (S0.out.next b5)
      replace S1 := Lib.hid (S1.out.next b5)
      replace S2 := Lib.hid (S2.out.next b5)
      replace S3 := Lib.hid (S3.out.next b5)
      replace S4 := Lib.hid (S4.out.below b5)
      replace S5 := Lib.hid (S5.out.next b5)
      replace S6 := Lib.hid (S6.out.next b5)
      replace S7 := Lib.hid (S7.out.below b5)
      replace S8 := Lib.hid (S8.out.next b5)
      replace S9 := Lib.hid (S9.out.next b5)
      replace HT := Lib.hid (HT.out.next b5)
      replace B := Lib.hid (thn B.out b5)
      clear b5
      go_wp2_with fail
      have hc := refRightF_any A0 n0 c0 ps A1 n1 c1 es w16  S0.out S1.out
      rw [Hd.out] at hc
      refine hc.mono ?_
      clear hc
      rintro e w17 ⟨rfl, b5⟩
      replace S0 := Lib.hid (S0.out.next b5)
      replace S1 := Lib.hid (S1.out.next b5)
      replace S2 := Lib.hid (S2.out.next b5)
      replace S3 := Lib.hid (S3.out.next b5)
      replace S4 := Lib.hid (S4.out.below b5)
      replace S5 := Lib.hid (S5.out.next b5)
      replace S6 := Lib.hid (S6.out.next b5)
      replace S7 := Lib.hid (S7.out.below b5)
      replace S8 := Lib.hid (S8.out.next b5)
      replace S9 := Lib.hid (S9.out.next b5)
      replace HT := Lib.hid (HT.out.next b5)
      replace B := Lib.hid (thn B.out b5)
      clear b5
      go_wp2_with fail
      have hc := refSame_any A8 nf.length c8 nf A9 nf.length c9 nf w17  S8.out S9.out
      rw [HN.out] at hc
      refine hc.mono ?_
      clear hc
      rintro e w18 ⟨rfl, b5⟩
      replace S0 := Lib.hid (S0.out.next b5)
      replace S1 := Lib.hid (S1.out.next b5)
      replace S2 := Lib.hid (S2.out.next b5)
      replace S3 := Lib.hid (S3.out.next b5)
      replace S4 := Lib.hid (S4.out.below b5)
      replace S5 := Lib.hid (S5.out.next b5)
      replace S6 := Lib.hid (S6.out.next b5)
      replace S7 := Lib.hid (S7.out.below b5)
      replace S8 := Lib.hid (S8.out.next b5)
      replace S9 := Lib.hid (S9.out.next b5)
      replace HT := Lib.hid (HT.out.next b5)
      replace B := Lib.hid (thn B.out b5)
      clear b5
      go_wp2_with fail
      have hc := refSame_any A1 n1 c1 es A4 n1 c4 es w18  S1.out (Sn.of_own S4.out)
      rw [HE.out] at hc
      refine hc.mono ?_
      clear hc
      rintro e w19 ⟨rfl, b5⟩
      replace S0 := Lib.hid (S0.out.next b5)
      replace S1 := Lib.hid (S1.out.next b5)
      replace S2 := Lib.hid (S2.out.next b5)
      replace S3 := Lib.hid (S3.out.next b5)
      replace S4 := Lib.hid (S4.out.below b5)
      replace S5 := Lib.hid (S5.out.next b5)
      replace S6 := Lib.hid (S6.out.next b5)
      replace S7 := Lib.hid (S7.out.below b5)
      replace S8 := Lib.hid (S8.out.next b5)
      replace S9 := Lib.hid (S9.out.next b5)
      replace HT := Lib.hid (HT.out.next b5)
      replace B := Lib.hid (thn B.out b5)
      clear b5
      go_wp2_with fail
      refine (awake_any w19 HT.out).mono ?_
      rintro e w20 ⟨rfl, b5⟩
      replace B := Lib.hid (thn B.out b5)
      clear b5
      go_wp2
      go_ret
      exact ⟨rfl, B.out⟩
end Go.Proofs.YtdgobdfggdmnpaaDoor
