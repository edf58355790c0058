/- Layer 6: ScoreTells. -/
import Derived.Test.YtmajempbncllgaaDoorKw
import Derived.Test.YtmajempbncllgaaDoorSch2
namespace Go.Proofs.YtmajempbncllgaaDoor
open Go.RowKit
set_option linter.unusedVariables false
set_option maxHeartbeats 2000000 in
theorem stells_walk (A0 : Option Addr) (n0 c0 : Nat) (ps : List (Int × Int)) (A1 : Option Addr) (n1 c1 : Nat) (es : List (Int × Int)) (A2 : Option Addr) (n2 c2 : Nat) (bs : List (Int × Int)) (w : World) (hT : Tab w) (i0 : ∀ p ∈ ps, inR p) (i1 : ∀ p ∈ es, inR p) (i2 : ∀ p ∈ bs, inR p)
    (h0 : Sp w w.heap.size A0 n0 c0 ps) (h1 : Sp w w.heap.size A1 n1 c1 es) (h2 : Sp w w.heap.size A2 n2 c2 bs) :
    Calls Tryd.prog 3 #[.slice A0 n0 c0, .slice A1 n1 c1, .slice A2 n2 c2] w fun e w' => e = .returned (.bool true) ∧ Below w.heap.size w w' := by
  have HL0 := Lib.hid (sp_len h0)
  have HL1 := Lib.hid (sp_len h1)
  have HT := Lib.hid hT
  have B := Lib.hid (Below.refl w.heap.size w)
  have S0 := Lib.hid h0
  have I0 := Lib.hid i0
  have S1 := Lib.hid h1
  have I1 := Lib.hid i1
  have S2 := Lib.hid h2
  have I2 := Lib.hid i2
  clear hT h0 i0 h1 i1 h2 i2
  by_cases fn0 : n0 ≤ 8
  rotate_left
  · have en0 : (8 : Int) < (n0 : Int) := by omega
    go_enter Tryd.func3, Tryd.ntmps3
    go_wp2_with fail
    refine (awake_any w HT.out).mono ?_
    rintro e w1 ⟨rfl, b5⟩
    replace B := Lib.hid (thn B.out b5)
    clear b5
    go_wp2
    go_ret
    exact ⟨rfl, B.out⟩
  have en0 : (n0 : Int) ≤ 8 := by omega
  by_cases fn1 : n1 ≤ 8
  rotate_left
  · have en1 : (8 : Int) < (n1 : Int) := by omega
    go_enter Tryd.func3, Tryd.ntmps3
    go_wp2_with fail
    refine (awake_any w HT.out).mono ?_
    rintro e w1 ⟨rfl, b5⟩
    replace B := Lib.hid (thn B.out b5)
    clear b5
    go_wp2
    go_ret
    exact ⟨rfl, B.out⟩
  have en1 : (n1 : Int) ≤ 8 := by omega
  by_cases fn2 : n2 ≤ 8
  rotate_left
  · have en2 : (8 : Int) < (n2 : Int) := by omega
    go_enter Tryd.func3, Tryd.ntmps3
    go_wp2_with fail
    refine (awake_any w HT.out).mono ?_
    rintro e w1 ⟨rfl, b5⟩
    replace B := Lib.hid (thn B.out b5)
    clear b5
    go_wp2
    go_ret
    exact ⟨rfl, B.out⟩
  have en2 : (n2 : Int) ≤ 8 := by omega
  obtain ⟨o, Ho⟩ : ∃ o, Hid (overF es bs = o) := ⟨_, rfl⟩
  obtain ⟨r, Hr⟩ : ∃ r, Hid (rightB ps = r) := ⟨_, rfl⟩
  obtain ⟨f, Hf⟩ : ∃ f, Hid (rightF ps es = f) := ⟨_, rfl⟩
  obtain ⟨k, Hk⟩ : ∃ k, Hid (keyF ps es = k) := ⟨_, rfl⟩
  cases r
  · go_enter Tryd.func3, Tryd.ntmps3
    go_wp2_with fail
    have hc := over_any A1 n1 c1 es A2 n2 c2 bs w HT.out I1.out I2.out S1.out S2.out (by omega)
    rw [Ho.out] at hc
    refine hc.mono ?_
    clear hc
    rintro e w1 ⟨rfl, b5⟩
    replace S0 := Lib.hid (S0.out.next b5)
    replace S1 := Lib.hid (S1.out.next b5)
    replace S2 := Lib.hid (S2.out.next b5)
    replace HT := Lib.hid (HT.out.next b5)
    replace B := Lib.hid (thn B.out b5)
    clear b5
    go_wp2_with fail
    have hc := refOver_any A1 n1 c1 es A2 n2 c2 bs w1 I1.out I2.out S1.out S2.out (by omega)
    rw [Ho.out] at hc
    refine hc.mono ?_
    clear hc
    rintro e w2 ⟨rfl, b5⟩
    replace S0 := Lib.hid (S0.out.next b5)
    replace S1 := Lib.hid (S1.out.next b5)
    replace S2 := Lib.hid (S2.out.next b5)
    replace HT := Lib.hid (HT.out.next b5)
    replace B := Lib.hid (thn B.out b5)
    clear b5
    go_wp2_with fail
    have hc := refRight_any A0 n0 c0 w2.heap.size ps w2 S0.out (Nat.le_refl _)
    rw [Hr.out] at hc
    refine hc.mono ?_
    clear hc
    rintro e w3 ⟨rfl, b5⟩
    replace S0 := Lib.hid (S0.out.next b5)
    replace S1 := Lib.hid (S1.out.next b5)
    replace S2 := Lib.hid (S2.out.next b5)
    replace HT := Lib.hid (HT.out.next b5)
    replace B := Lib.hid (thn B.out b5)
    clear b5
    go_wp2_with fail
    refine (awake_any w3 HT.out).mono ?_
    rintro e w4 ⟨rfl, b5⟩
    replace B := Lib.hid (thn B.out b5)
    clear b5
    go_wp2
    go_ret
    exact ⟨rfl, B.out⟩
  · cases f
    · go_enter Tryd.func3, Tryd.ntmps3
      go_wp2_with fail
      have hc := over_any A1 n1 c1 es A2 n2 c2 bs w HT.out I1.out I2.out S1.out S2.out (by omega)
      rw [Ho.out] at hc
      refine hc.mono ?_
      clear hc
      rintro e w1 ⟨rfl, b5⟩
      replace S0 := Lib.hid (S0.out.next b5)
      replace S1 := Lib.hid (S1.out.next b5)
      replace S2 := Lib.hid (S2.out.next b5)
      replace HT := Lib.hid (HT.out.next b5)
      replace B := Lib.hid (thn B.out b5)
      clear b5
      go_wp2_with fail
      have hc := refOver_any A1 n1 c1 es A2 n2 c2 bs w1 I1.out I2.out S1.out S2.out (by omega)
      rw [Ho.out] at hc
      refine hc.mono ?_
      clear hc
      rintro e w2 ⟨rfl, b5⟩
      replace S0 := Lib.hid (S0.out.next b5)
      replace S1 := Lib.hid (S1.out.next b5)
      replace S2 := Lib.hid (S2.out.next b5)
      replace HT := Lib.hid (HT.out.next b5)
      replace B := Lib.hid (thn B.out b5)
      clear b5
      go_wp2_with fail
      have hc := refRight_any A0 n0 c0 w2.heap.size ps w2 S0.out (Nat.le_refl _)
      rw [Hr.out] at hc
      refine hc.mono ?_
      clear hc
      rintro e w3 ⟨rfl, b5⟩
      replace S0 := Lib.hid (S0.out.next b5)
      replace S1 := Lib.hid (S1.out.next b5)
      replace S2 := Lib.hid (S2.out.next b5)
      replace HT := Lib.hid (HT.out.next b5)
      replace B := Lib.hid (thn B.out b5)
      clear b5
      go_wp2_with fail
      have hc := refRightF_any A0 n0 c0 ps A1 n1 c1 es w3 S0.out S1.out
      rw [Hf.out] at hc
      refine hc.mono ?_
      clear hc
      rintro e w4 ⟨rfl, b5⟩
      replace S0 := Lib.hid (S0.out.next b5)
      replace S1 := Lib.hid (S1.out.next b5)
      replace S2 := Lib.hid (S2.out.next b5)
      replace HT := Lib.hid (HT.out.next b5)
      replace B := Lib.hid (thn B.out b5)
      clear b5
      go_wp2_with fail
      refine (awake_any w4 HT.out).mono ?_
      rintro e w5 ⟨rfl, b5⟩
      replace B := Lib.hid (thn B.out b5)
      clear b5
      go_wp2
      go_ret
      exact ⟨rfl, B.out⟩
    · have H4 : Hid (es.length ≤ 4) := by
        have h1 := right_len Hf.out
        have h2 := (rightB_get Hr.out).2.1
        unfold Hid
        omega
      go_enter Tryd.func3, Tryd.ntmps3
      go_wp2_with fail
      have hc := over_any A1 n1 c1 es A2 n2 c2 bs w HT.out I1.out I2.out S1.out S2.out (by omega)
      rw [Ho.out] at hc
      refine hc.mono ?_
      clear hc
      rintro e w1 ⟨rfl, b5⟩
      replace S0 := Lib.hid (S0.out.next b5)
      replace S1 := Lib.hid (S1.out.next b5)
      replace S2 := Lib.hid (S2.out.next b5)
      replace HT := Lib.hid (HT.out.next b5)
      replace B := Lib.hid (thn B.out b5)
      clear b5
      go_wp2_with fail
      have hc := refOver_any A1 n1 c1 es A2 n2 c2 bs w1 I1.out I2.out S1.out S2.out (by omega)
      rw [Ho.out] at hc
      refine hc.mono ?_
      clear hc
      rintro e w2 ⟨rfl, b5⟩
      replace S0 := Lib.hid (S0.out.next b5)
      replace S1 := Lib.hid (S1.out.next b5)
      replace S2 := Lib.hid (S2.out.next b5)
      replace HT := Lib.hid (HT.out.next b5)
      replace B := Lib.hid (thn B.out b5)
      clear b5
      go_wp2_with fail
      have hc := refRight_any A0 n0 c0 w2.heap.size ps w2 S0.out (Nat.le_refl _)
      rw [Hr.out] at hc
      refine hc.mono ?_
      clear hc
      rintro e w3 ⟨rfl, b5⟩
      replace S0 := Lib.hid (S0.out.next b5)
      replace S1 := Lib.hid (S1.out.next b5)
      replace S2 := Lib.hid (S2.out.next b5)
      replace HT := Lib.hid (HT.out.next b5)
      replace B := Lib.hid (thn B.out b5)
      clear b5
      go_wp2_with fail
      have hc := refRightF_any A0 n0 c0 ps A1 n1 c1 es w3 S0.out S1.out
      rw [Hf.out] at hc
      refine hc.mono ?_
      clear hc
      rintro e w4 ⟨rfl, b5⟩
      replace S0 := Lib.hid (S0.out.next b5)
      replace S1 := Lib.hid (S1.out.next b5)
      replace S2 := Lib.hid (S2.out.next b5)
      replace HT := Lib.hid (HT.out.next b5)
      replace B := Lib.hid (thn B.out b5)
      clear b5
      go_wp2_with fail
      have hc := key_any A0 n0 c0 ps A1 n1 c1 es w4 HT.out I0.out I1.out Hf.out H4.out S0.out S1.out
      rw [Hk.out] at hc
      refine hc.mono ?_
      clear hc
      rintro e w5 ⟨rfl, b5⟩
      replace S0 := Lib.hid (S0.out.next b5)
      replace S1 := Lib.hid (S1.out.next b5)
      replace S2 := Lib.hid (S2.out.next b5)
      replace HT := Lib.hid (HT.out.next b5)
      replace B := Lib.hid (thn B.out b5)
      clear b5
      go_wp2_with fail
      have hc := refKey_any A0 n0 c0 ps A1 n1 c1 es w5 I0.out I1.out Hf.out H4.out S0.out S1.out
      rw [Hk.out] at hc
      refine hc.mono ?_
      clear hc
      rintro e w6 ⟨rfl, b5⟩
      replace S0 := Lib.hid (S0.out.next b5)
      replace S1 := Lib.hid (S1.out.next b5)
      replace S2 := Lib.hid (S2.out.next b5)
      replace HT := Lib.hid (HT.out.next b5)
      replace B := Lib.hid (thn B.out b5)
      clear b5
      go_wp2_with fail
      refine (awake_any w6 HT.out).mono ?_
      rintro e w7 ⟨rfl, b5⟩
      replace B := Lib.hid (thn B.out b5)
      clear b5
      go_wp2
      go_ret
      exact ⟨rfl, B.out⟩
end Go.Proofs.YtmajempbncllgaaDoor
