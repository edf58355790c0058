/- Layer 5: FilterNormal. -/
import Derived.Test.YtdgobdfggdmnpaaDoorFs
namespace Go.Proofs.YtdgobdfggdmnpaaDoor
open Go.RowKit
set_option linter.unusedVariables false
set_option maxHeartbeats 20000000 in
theorem fnormal_walk (A0 : Option Addr) (n0 c0 : Nat) (ps : List (Int × Int)) (A1 : Option Addr) (n1 c1 : Nat) (es : List (Int × Int)) (A3 : Option Addr) (n3 c3 : Nat) (xs : List Int) (w : World) (hT : Tab w) (i0 : ∀ p ∈ ps, inR p) (i1 : ∀ p ∈ es, inR p)
    (h0 : Sp w w.heap.size A0 n0 c0 ps) (h1 : Sp w w.heap.size A1 n1 c1 es) (h3 : Si w w.heap.size A3 n3 c3 xs) :
    Calls Tryd.prog 4 #[.slice A0 n0 c0, .slice A1 n1 c1, .slice A3 n3 c3] w fun e w' => e = .returned (.bool true) ∧ Below w.heap.size w w' := by
  have HT := Lib.hid hT
  have B := Lib.hid (Below.refl w.heap.size w)
  have S0 := Lib.hid h0
  have S1 := Lib.hid h1
  have S3 := Lib.hid h3
  have I0 := Lib.hid i0
  have I1 := Lib.hid i1
  have IN := Lib.hid (normF_inR i0 i1)
  have HL0 := Lib.hid (sp_len h0)
  have HL1 := Lib.hid (sp_len h1)
  clear hT h0 h1 h3 i0 i1
  by_cases hn0 : 8 < n0
  · have hn0' : (8 : Int) < n0 := by omega
    go_enter Tryd.func4, Tryd.ntmps4
    go_wp2_with fail
    refine (awake_any w HT.out).mono ?_
    rintro e w1 ⟨rfl, b5⟩
    replace B := Lib.hid (thn B.out b5)
    clear b5
    go_wp2
    go_ret
    exact ⟨rfl, B.out⟩
  have hn0' : (n0 : Int) ≤ 8 := by omega
  have hm0 : n0 ≤ 1000000 := by omega
  obtain ⟨z, HZ⟩ : ∃ z : Bool, Hid ((decide (n1 ≤ 8) && decide (0 ≤ 8) && decide (n3 ≤ 8)) = z) := ⟨(decide (n1 ≤ 8) && decide (0 ≤ 8) && decide (n3 ≤ 8)), Lib.hid (Eq.refl _)⟩
  have HFw := few_any A1 n1 c1 none 0 0 A3 n3 c3 w
  rw [HZ.out] at HFw
  replace HFw := Lib.hid HFw
  cases z
  · go_enter Tryd.func4, Tryd.ntmps4
    go_wp2_with fail
    refine HFw.out.mono ?_
    rintro e _ ⟨rfl, rfl⟩
    go_wp2_with fail
    refine (awake_any w HT.out).mono ?_
    rintro e w1 ⟨rfl, b5⟩
    replace B := Lib.hid (thn B.out b5)
    clear b5
    go_wp2
    go_ret
    exact ⟨rfl, B.out⟩
  clear HZ
  obtain ⟨r, HR⟩ : ∃ r, Hid (rightB ps = r) := ⟨_, rfl⟩
  cases r
  · go_enter Tryd.func4, Tryd.ntmps4
    go_wp2_with fail
    refine HFw.out.mono ?_
    rintro e _ ⟨rfl, rfl⟩
    go_wp2_with fail
    have hc := right_any A0 n0 c0 w.heap.size ps w S0.out (Nat.le_refl _)
    rw [HR.out] at hc
    refine hc.mono ?_
    clear hc
    rintro e w1 ⟨rfl, b5⟩
    replace S0 := Lib.hid (S0.out.next b5)
    replace S1 := Lib.hid (S1.out.next b5)
    replace S3 := Lib.hid (S3.out.next b5)
    replace HT := Lib.hid (HT.out.next b5)
    replace B := Lib.hid (thn B.out b5)
    clear b5
    go_wp2_with fail
    refine (awake_any w1 HT.out).mono ?_
    rintro e w2 ⟨rfl, b5⟩
    replace B := Lib.hid (thn B.out b5)
    clear b5
    go_wp2
    go_ret
    exact ⟨rfl, B.out⟩
  obtain ⟨r1, r4, rp⟩ := rightB_get HR.out
  have hn4 : n0 ≤ 4 := by rw [HL0.out]; exact r4
  have HFT := Lib.hid (bring_fit ps xs rp)
  obtain ⟨v, Hv⟩ : ∃ v, Hid (bringL ps xs = v) := ⟨_, rfl⟩
  rw [Hv.out] at HFT
  have ntt : ∀ w', (binOp .neq 4 (.bool true) (.bool true)).run Tryd.prog w' = .ok (.bool false) w' := fun w' => (neq_bool true true w').trans (by simp)
  have nff : ∀ w', (binOp .neq 4 (.bool false) (.bool false)).run Tryd.prog w' = .ok (.bool false) w' := fun w' => (neq_bool false false w').trans (by simp)
  by_cases hbad : ¬ n1 = 0 ∧ ¬ n1 = n0
  · obtain ⟨k0, k1⟩ := hbad
    obtain ⟨HB1, HB2⟩ : Hid (normE ps es = 50) ∧ Hid (normF ps es = []) := norm_bad (by rw [← HL1.out]; exact k0) (by rw [← HL1.out, ← HL0.out]; exact k1)
    have q0 : ((n1 : Int) == 0) = false := by simpa using k0
    have q1 : ((n1 : Int) == (n0 : Int)) = false := by simpa using (by omega : ¬ (n1 : Int) = n0)
    have IE : Hid (∀ p ∈ ([] : List (Int × Int)), inR p) := fun p hp => by cases hp
    clear rp
    go_enter Tryd.func4, Tryd.ntmps4
    go_wp2_with fail
    refine HFw.out.mono ?_
    rintro e _ ⟨rfl, rfl⟩
    go_wp2_with fail
    have hc := right_any A0 n0 c0 w.heap.size ps w S0.out (Nat.le_refl _)
    rw [HR.out] at hc
    refine hc.mono ?_
    clear hc
    rintro e w1 ⟨rfl, b5⟩
    replace S0 := Lib.hid (S0.out.next b5)
    replace S1 := Lib.hid (S1.out.next b5)
    replace S3 := Lib.hid (S3.out.next b5)
    replace HT := Lib.hid (HT.out.next b5)
    replace B := Lib.hid (thn B.out b5)
    clear b5
    go_wp2_with fail
    have hc := normalF_any A0 n0 c0 ps A1 n1 c1 es w1 HT.out I0.out I1.out S0.out S1.out hm0
    rw [HB2.out] at hc
    rw [HB1.out] at hc
    refine hc.mono ?_
    clear hc
    rintro e w2 ⟨A8, c8, rfl, s8, b5⟩
    have S8 := Lib.hid s8
    clear s8
    replace S0 := Lib.hid (S0.out.next b5)
    replace S1 := Lib.hid (S1.out.next b5)
    replace S3 := Lib.hid (S3.out.next b5)
    replace HT := Lib.hid (HT.out.next b5)
    replace B := Lib.hid (thn B.out b5)
    clear b5
    go_wp2_with fail
    refine (awake_any w2 HT.out).mono ?_
    rintro e w3 ⟨rfl, b5⟩
    replace B := Lib.hid (thn B.out b5)
    clear b5
    go_wp2
    go_ret
    exact ⟨rfl, B.out⟩
  · have hl : n1 = 0 ∨ n1 = n0 := by omega
    have hl' : es.length = 0 ∨ es.length = ps.length := by rw [← HL1.out, ← HL0.out]; exact hl
    have HE := Lib.hid (norm_ok hl')
    have HMA := Lib.hid (norm_match r1 HFT.out hl')
    have HR2 := Lib.hid (norm_right ps es)
    have HSS := Lib.hid (norm_same ps es)
    have HEE := Lib.hid (norm_err ps es)
    have HRI := Lib.hid (right_iff ps es)
    have HSF := Lib.hid (same_self (normF ps es))
    obtain ⟨nf, Hn⟩ : ∃ m, Hid (normF ps es = m) := ⟨_, rfl⟩
    rw [Hn.out] at HMA HR2 HSS HEE HRI IN HSF
    obtain ⟨b, Hb⟩ : ∃ b, Hid (matchF es v = b) := ⟨_, rfl⟩
    rw [Hb.out] at HMA
    obtain ⟨d, Hd⟩ : ∃ b, Hid (sameF nf es = b) := ⟨_, rfl⟩
    rw [Hd.out] at HRI
    clear rp
    by_cases k0 : n1 = 0
    · subst k0
      clear hl hl'
      go_enter Tryd.func4, Tryd.ntmps4
      go_wp2_with fail
      refine HFw.out.mono ?_
      rintro e _ ⟨rfl, rfl⟩
      go_wp2_with fail
      have hc := right_any A0 n0 c0 w.heap.size ps w S0.out (Nat.le_refl _)
      rw [HR.out] at hc
      refine hc.mono ?_
      clear hc
      rintro e w1 ⟨rfl, b5⟩
      replace S0 := Lib.hid (S0.out.next b5)
      replace S1 := Lib.hid (S1.out.next b5)
      replace S3 := Lib.hid (S3.out.next b5)
      replace HT := Lib.hid (HT.out.next b5)
      replace B := Lib.hid (thn B.out b5)
      clear b5
      go_wp2_with fail
      have hc := normalF_any A0 n0 c0 ps A1 0 c1 es w1 HT.out I0.out I1.out S0.out S1.out hm0
      rw [Hn.out] at hc
      rw [HE.out] at hc
      refine hc.mono ?_
      clear hc
      rintro e w2 ⟨A8, c8, rfl, s8, b5⟩
      have S8 := Lib.hid s8
      clear s8
      replace S0 := Lib.hid (S0.out.next b5)
      replace S1 := Lib.hid (S1.out.next b5)
      replace S3 := Lib.hid (S3.out.next b5)
      replace HT := Lib.hid (HT.out.next b5)
      replace B := Lib.hid (thn B.out b5)
      clear b5
      go_wp2_with fail
      have hc := bring_any A0 n0 c0 w2.heap.size ps A3 n3 c3 w2.heap.size xs w2 S0.out (Nat.le_refl _) S3.out (Nat.le_refl _) hn4
      rw [Hv.out] at hc
      refine hc.mono ?_
      clear hc
      rintro e w3 ⟨A5, c5, rfl, s5, b5⟩
      have S5 : Hid (Si w3 w3.heap.size A5 v.length c5 v) := Own.sv s5
      clear s5
      replace S0 := Lib.hid (S0.out.next b5)
      replace S1 := Lib.hid (S1.out.next b5)
      replace S3 := Lib.hid (S3.out.next b5)
      replace S8 := Lib.hid (S8.out.next b5)
      replace HT := Lib.hid (HT.out.next b5)
      replace B := Lib.hid (thn B.out b5)
      clear b5
      go_wp2_with fail
      have hc := normalF_any A0 n0 c0 ps A8 nf.length c8 nf w3 HT.out I0.out IN.out S0.out S8.out hm0
      rw [HSS.out] at hc
      rw [HEE.out] at hc
      refine hc.mono ?_
      clear hc
      rintro e w4 ⟨A9, c9, rfl, s9, b5⟩
      have S9 := Lib.hid s9
      clear s9
      replace S0 := Lib.hid (S0.out.next b5)
      replace S1 := Lib.hid (S1.out.next b5)
      replace S3 := Lib.hid (S3.out.next b5)
      replace S8 := Lib.hid (S8.out.next b5)
      replace S5 := Lib.hid (S5.out.next b5)
      replace HT := Lib.hid (HT.out.next b5)
      replace B := Lib.hid (thn B.out b5)
      clear b5
      go_wp2_with fail
      have hc := rightF_any A0 n0 c0 ps A8 nf.length c8 nf w4 HT.out I0.out IN.out S0.out S8.out
      rw [HR2.out] at hc
      refine hc.mono ?_
      clear hc
      rintro e w5 ⟨rfl, b5⟩
      replace S0 := Lib.hid (S0.out.next b5)
      replace S1 := Lib.hid (S1.out.next b5)
      replace S3 := Lib.hid (S3.out.next b5)
      replace S8 := Lib.hid (S8.out.next b5)
      replace S5 := Lib.hid (S5.out.next b5)
      replace S9 := Lib.hid (S9.out.next b5)
      replace HT := Lib.hid (HT.out.next b5)
      replace B := Lib.hid (thn B.out b5)
      clear b5
      go_wp2_with fail
      have hc := matchF_any A8 nf.length c8 nf A5 v.length c5 v w5 IN.out S8.out S5.out
      rw [HMA.out] at hc
      refine hc.mono ?_
      clear hc
      rintro e w6 ⟨rfl, b5⟩
      replace S0 := Lib.hid (S0.out.next b5)
      replace S1 := Lib.hid (S1.out.next b5)
      replace S3 := Lib.hid (S3.out.next b5)
      replace S8 := Lib.hid (S8.out.next b5)
      replace S5 := Lib.hid (S5.out.next b5)
      replace S9 := Lib.hid (S9.out.next b5)
      replace HT := Lib.hid (HT.out.next b5)
      replace B := Lib.hid (thn B.out b5)
      clear b5
      go_wp2_with fail
      have hc := matchF_any A1 0 c1 es A5 v.length c5 v w6 I1.out S1.out S5.out
      rw [Hb.out] at hc
      refine hc.mono ?_
      clear hc
      rintro e w7 ⟨rfl, b5⟩
      replace S0 := Lib.hid (S0.out.next b5)
      replace S1 := Lib.hid (S1.out.next b5)
      replace S3 := Lib.hid (S3.out.next b5)
      replace S8 := Lib.hid (S8.out.next b5)
      replace S5 := Lib.hid (S5.out.next b5)
      replace S9 := Lib.hid (S9.out.next b5)
      replace HT := Lib.hid (HT.out.next b5)
      replace B := Lib.hid (thn B.out b5)
      clear b5
      go_wp2_with fail
      have hc := sameF_any A9 nf.length c9 nf A8 nf.length c8 nf w7  S9.out S8.out
      rw [HSF.out] at hc
      refine hc.mono ?_
      clear hc
      rintro e w8 ⟨rfl, b5⟩
      replace S0 := Lib.hid (S0.out.next b5)
      replace S1 := Lib.hid (S1.out.next b5)
      replace S3 := Lib.hid (S3.out.next b5)
      replace S8 := Lib.hid (S8.out.next b5)
      replace S5 := Lib.hid (S5.out.next b5)
      replace S9 := Lib.hid (S9.out.next b5)
      replace HT := Lib.hid (HT.out.next b5)
      replace B := Lib.hid (thn B.out b5)
      clear b5
      go_wp2_with fail
      have hc := rightF_any A0 n0 c0 ps A1 0 c1 es w8 HT.out I0.out I1.out S0.out S1.out
      rw [HRI.out] at hc
      refine hc.mono ?_
      clear hc
      rintro e w9 ⟨rfl, b5⟩
      replace S0 := Lib.hid (S0.out.next b5)
      replace S1 := Lib.hid (S1.out.next b5)
      replace S3 := Lib.hid (S3.out.next b5)
      replace S8 := Lib.hid (S8.out.next b5)
      replace S5 := Lib.hid (S5.out.next b5)
      replace S9 := Lib.hid (S9.out.next b5)
      replace HT := Lib.hid (HT.out.next b5)
      replace B := Lib.hid (thn B.out b5)
      clear b5
      go_wp2_with fail
      have hc := sameF_any A8 nf.length c8 nf A1 0 c1 es w9  S8.out S1.out
      rw [Hd.out] at hc
      refine hc.mono ?_
      clear hc
      rintro e w10 ⟨rfl, b5⟩
      replace S0 := Lib.hid (S0.out.next b5)
      replace S1 := Lib.hid (S1.out.next b5)
      replace S3 := Lib.hid (S3.out.next b5)
      replace S8 := Lib.hid (S8.out.next b5)
      replace S5 := Lib.hid (S5.out.next b5)
      replace S9 := Lib.hid (S9.out.next b5)
      replace HT := Lib.hid (HT.out.next b5)
      replace B := Lib.hid (thn B.out b5)
      clear b5
      go_wp2_with fail
      refine (awake_any w10 HT.out).mono ?_
      rintro e w11 ⟨rfl, b5⟩
      replace B := Lib.hid (thn B.out b5)
      clear b5
      go_wp2
      go_ret
      exact ⟨rfl, B.out⟩
    · obtain rfl : n1 = n0 := hl.resolve_left k0
      have q0 : ((n1 : Int) == 0) = false := by simpa using k0
      clear hl hl'
      go_enter Tryd.func4, Tryd.ntmps4
      go_wp2_with fail
      refine HFw.out.mono ?_
      rintro e _ ⟨rfl, rfl⟩
      go_wp2_with fail
      have hc := right_any A0 n1 c0 w.heap.size ps w S0.out (Nat.le_refl _)
      rw [HR.out] at hc
      refine hc.mono ?_
      clear hc
      rintro e w1 ⟨rfl, b5⟩
      replace S0 := Lib.hid (S0.out.next b5)
      replace S1 := Lib.hid (S1.out.next b5)
      replace S3 := Lib.hid (S3.out.next b5)
      replace HT := Lib.hid (HT.out.next b5)
      replace B := Lib.hid (thn B.out b5)
      clear b5
      go_wp2_with fail
      have hc := normalF_any A0 n1 c0 ps A1 n1 c1 es w1 HT.out I0.out I1.out S0.out S1.out hm0
      rw [Hn.out] at hc
      rw [HE.out] at hc
      refine hc.mono ?_
      clear hc
      rintro e w2 ⟨A8, c8, rfl, s8, b5⟩
      have S8 := Lib.hid s8
      clear s8
      replace S0 := Lib.hid (S0.out.next b5)
      replace S1 := Lib.hid (S1.out.next b5)
      replace S3 := Lib.hid (S3.out.next b5)
      replace HT := Lib.hid (HT.out.next b5)
      replace B := Lib.hid (thn B.out b5)
      clear b5
      go_wp2_with fail
      have hc := bring_any A0 n1 c0 w2.heap.size ps A3 n3 c3 w2.heap.size xs w2 S0.out (Nat.le_refl _) S3.out (Nat.le_refl _) hn4
      rw [Hv.out] at hc
      refine hc.mono ?_
      clear hc
      rintro e w3 ⟨A5, c5, rfl, s5, b5⟩
      have S5 : Hid (Si w3 w3.heap.size A5 v.length c5 v) := Own.sv s5
      clear s5
      replace S0 := Lib.hid (S0.out.next b5)
      replace S1 := Lib.hid (S1.out.next b5)
      replace S3 := Lib.hid (S3.out.next b5)
      replace S8 := Lib.hid (S8.out.next b5)
      replace HT := Lib.hid (HT.out.next b5)
      replace B := Lib.hid (thn B.out b5)
      clear b5
      go_wp2_with fail
      have hc := normalF_any A0 n1 c0 ps A8 nf.length c8 nf w3 HT.out I0.out IN.out S0.out S8.out hm0
      rw [HSS.out] at hc
      rw [HEE.out] at hc
      refine hc.mono ?_
      clear hc
      rintro e w4 ⟨A9, c9, rfl, s9, b5⟩
      have S9 := Lib.hid s9
      clear s9
      replace S0 := Lib.hid (S0.out.next b5)
      replace S1 := Lib.hid (S1.out.next b5)
      replace S3 := Lib.hid (S3.out.next b5)
      replace S8 := Lib.hid (S8.out.next b5)
      replace S5 := Lib.hid (S5.out.next b5)
      replace HT := Lib.hid (HT.out.next b5)
      replace B := Lib.hid (thn B.out b5)
      clear b5
      go_wp2_with fail
      have hc := rightF_any A0 n1 c0 ps A8 nf.length c8 nf w4 HT.out I0.out IN.out S0.out S8.out
      rw [HR2.out] at hc
      refine hc.mono ?_
      clear hc
      rintro e w5 ⟨rfl, b5⟩
      replace S0 := Lib.hid (S0.out.next b5)
      replace S1 := Lib.hid (S1.out.next b5)
      replace S3 := Lib.hid (S3.out.next b5)
      replace S8 := Lib.hid (S8.out.next b5)
      replace S5 := Lib.hid (S5.out.next b5)
      replace S9 := Lib.hid (S9.out.next b5)
      replace HT := Lib.hid (HT.out.next b5)
      replace B := Lib.hid (thn B.out b5)
      clear b5
      go_wp2_with fail
      have hc := matchF_any A8 nf.length c8 nf A5 v.length c5 v w5 IN.out S8.out S5.out
      rw [HMA.out] at hc
      refine hc.mono ?_
      clear hc
      rintro e w6 ⟨rfl, b5⟩
      replace S0 := Lib.hid (S0.out.next b5)
      replace S1 := Lib.hid (S1.out.next b5)
      replace S3 := Lib.hid (S3.out.next b5)
      replace S8 := Lib.hid (S8.out.next b5)
      replace S5 := Lib.hid (S5.out.next b5)
      replace S9 := Lib.hid (S9.out.next b5)
      replace HT := Lib.hid (HT.out.next b5)
      replace B := Lib.hid (thn B.out b5)
      clear b5
      go_wp2_with fail
      have hc := matchF_any A1 n1 c1 es A5 v.length c5 v w6 I1.out S1.out S5.out
      rw [Hb.out] at hc
      refine hc.mono ?_
      clear hc
      rintro e w7 ⟨rfl, b5⟩
      replace S0 := Lib.hid (S0.out.next b5)
      replace S1 := Lib.hid (S1.out.next b5)
      replace S3 := Lib.hid (S3.out.next b5)
      replace S8 := Lib.hid (S8.out.next b5)
      replace S5 := Lib.hid (S5.out.next b5)
      replace S9 := Lib.hid (S9.out.next b5)
      replace HT := Lib.hid (HT.out.next b5)
      replace B := Lib.hid (thn B.out b5)
      clear b5
      go_wp2_with fail
      have hc := sameF_any A9 nf.length c9 nf A8 nf.length c8 nf w7  S9.out S8.out
      rw [HSF.out] at hc
      refine hc.mono ?_
      clear hc
      rintro e w8 ⟨rfl, b5⟩
      replace S0 := Lib.hid (S0.out.next b5)
      replace S1 := Lib.hid (S1.out.next b5)
      replace S3 := Lib.hid (S3.out.next b5)
      replace S8 := Lib.hid (S8.out.next b5)
      replace S5 := Lib.hid (S5.out.next b5)
      replace S9 := Lib.hid (S9.out.next b5)
      replace HT := Lib.hid (HT.out.next b5)
      replace B := Lib.hid (thn B.out b5)
      clear b5
      go_wp2_with fail
      have hc := rightF_any A0 n1 c0 ps A1 n1 c1 es w8 HT.out I0.out I1.out S0.out S1.out
      rw [HRI.out] at hc
      refine hc.mono ?_
      clear hc
      rintro e w9 ⟨rfl, b5⟩
      replace S0 := Lib.hid (S0.out.next b5)
      replace S1 := Lib.hid (S1.out.next b5)
      replace S3 := Lib.hid (S3.out.next b5)
      replace S8 := Lib.hid (S8.out.next b5)
      replace S5 := Lib.hid (S5.out.next b5)
      replace S9 := Lib.hid (S9.out.next b5)
      replace HT := Lib.hid (HT.out.next b5)
      replace B := Lib.hid (thn B.out b5)
      clear b5
      go_wp2_with fail
      have hc := sameF_any A8 nf.length c8 nf A1 n1 c1 es w9  S8.out S1.out
      rw [Hd.out] at hc
      refine hc.mono ?_
      clear hc
      rintro e w10 ⟨rfl, b5⟩
      replace S0 := Lib.hid (S0.out.next b5)
      replace S1 := Lib.hid (S1.out.next b5)
      replace S3 := Lib.hid (S3.out.next b5)
      replace S8 := Lib.hid (S8.out.next b5)
      replace S5 := Lib.hid (S5.out.next b5)
      replace S9 := Lib.hid (S9.out.next b5)
      replace HT := Lib.hid (HT.out.next b5)
      replace B := Lib.hid (thn B.out b5)
      clear b5
      go_wp2_with fail
      refine (awake_any w10 HT.out).mono ?_
      rintro e w11 ⟨rfl, b5⟩
      replace B := Lib.hid (thn B.out b5)
      clear b5
      go_wp2
      go_ret
      exact ⟨rfl, B.out⟩
end Go.Proofs.YtdgobdfggdmnpaaDoor
