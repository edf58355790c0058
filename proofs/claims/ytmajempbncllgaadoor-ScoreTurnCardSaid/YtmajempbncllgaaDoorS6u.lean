/- Layer 6: ScoreTurn. -/
import Derived.Test.YtmajempbncllgaaDoorKw
import Derived.Test.YtmajempbncllgaaDoorSch2
namespace Go.Proofs.YtmajempbncllgaaDoor
open Go.RowKit
set_option linter.unusedVariables false
set_option maxHeartbeats 2000000 in
theorem sturn_walk (A1 : Option Addr) (n1 c1 : Nat) (es : List (Int × Int)) (A2 : Option Addr) (n2 c2 : Nat) (bs : List (Int × Int)) (w : World) (hT : Tab w) (i1 : ∀ p ∈ es, inR p) (i2 : ∀ p ∈ bs, inR p)
    (h1 : Sp w w.heap.size A1 n1 c1 es) (h2 : Sp w w.heap.size A2 n2 c2 bs) :
    Calls Tryd.prog 4 #[.slice A1 n1 c1, .slice A2 n2 c2] w fun e w' => e = .returned (.bool true) ∧ Below w.heap.size w w' := by
  have IM := Lib.hid (meetF_in' i1 i2)
  have HL1 := Lib.hid (sp_len h1)
  have HT := Lib.hid hT
  have B := Lib.hid (Below.refl w.heap.size w)
  have S1 := Lib.hid h1
  have I1 := Lib.hid i1
  have S2 := Lib.hid h2
  have I2 := Lib.hid i2
  clear hT h1 i1 h2 i2
  by_cases fn1 : n1 ≤ 8
  rotate_left
  · have en1 : (8 : Int) < (n1 : Int) := by omega
    go_enter Tryd.func4, Tryd.ntmps4
    go_wp2_with fail
    refine (awake_any w HT.out).mono ?_
    rintro e w1 ⟨rfl, b5⟩
    replace B := Lib.hid (thn B.out b5)
    clear b5
    go_wp2
    go_ret
    exact ⟨rfl, B.out⟩
  have en1 : (n1 : Int) ≤ 8 := by omega
  by_cases fn2 : n2 ≤ 8
  rotate_left
  · have en2 : (8 : Int) < (n2 : Int) := by omega
    go_enter Tryd.func4, Tryd.ntmps4
    go_wp2_with fail
    refine (awake_any w HT.out).mono ?_
    rintro e w1 ⟨rfl, b5⟩
    replace B := Lib.hid (thn B.out b5)
    clear b5
    go_wp2
    go_ret
    exact ⟨rfl, B.out⟩
  have en2 : (n2 : Int) ≤ 8 := by omega
  have HML : Hid ((meetF es bs).length ≤ 8) := by
    have := meetF_len es bs
    have := HL1.out
    unfold Hid
    omega
  obtain ⟨o, Ho⟩ : ∃ o, Hid (overF es bs = o) := ⟨_, rfl⟩
  have Ho' : Hid (overF bs es = o) := (overF_comm bs es).trans Ho.out
  have Hm' : Hid (overF (meetF es bs) (meetF es bs) = o) := (overF_meet es bs).trans Ho.out
  obtain ⟨p, Hp⟩ : ∃ p, Hid (overF es es = p) := ⟨_, rfl⟩
  obtain ⟨q, Hq⟩ : ∃ q, Hid (overF bs bs = q) := ⟨_, rfl⟩
  have hop : o ≤ p := by rw [← Ho.out, ← Hp.out]; exact overF_self_le es bs
  have hoq : o ≤ q := by rw [← Ho.out, ← Hq.out]; exact overF_self_le' es bs
  have hz := overF_zero es bs
  have Hz : Hid (((o : Int) == 0) = (((meetF es bs).length : Int) == 0)) := by
    rw [Ho.out] at hz
    unfold Hid
    rw [Bool.eq_iff_iff]
    simp only [beq_iff_eq]
    omega
  clear hz
  obtain ⟨m, Hm⟩ : ∃ m, Hid (meetF es bs = m) := ⟨_, rfl⟩
  rw [Hm.out] at Hm' Hz IM HML
  obtain ⟨nm, Hnm⟩ : ∃ nm, Hid (m.length = nm) := ⟨_, rfl⟩
  rw [Hnm.out] at Hz HML
  obtain ⟨z, Hz2⟩ : ∃ z, Hid (((nm : Int) == 0) = z) := ⟨_, rfl⟩
  rw [Hz2.out] at Hz
  have hz1 := Hz.out
  have hz2 := Hz2.out
  have HML := HML.out
  go_enter Tryd.func4, Tryd.ntmps4
  go_wp2_with fail
  have hc := over_any A1 n1 c1 es A2 n2 c2 bs w HT.out I1.out I2.out S1.out S2.out (by omega)
  rw [Ho.out] at hc
  refine hc.mono ?_
  clear hc
  rintro e w1 ⟨rfl, b5⟩
  replace S1 := Lib.hid (S1.out.next b5)
  replace S2 := Lib.hid (S2.out.next b5)
  replace HT := Lib.hid (HT.out.next b5)
  replace B := Lib.hid (thn B.out b5)
  clear b5
  go_wp2_with fail
  have hc := meetF_any A1 n1 c1 es A2 n2 c2 bs w1 HT.out I1.out I2.out S1.out S2.out (by omega)
  rw [Hm.out] at hc
  refine hc.mono ?_
  clear hc
  rintro e w2 ⟨Am, cm, rfl, sm, b5⟩
  have Sm := Lib.hid sm
  clear sm
  replace S1 := Lib.hid (S1.out.next b5)
  replace S2 := Lib.hid (S2.out.next b5)
  replace HT := Lib.hid (HT.out.next b5)
  replace B := Lib.hid (thn B.out b5)
  clear b5
  rw [Hnm.out] at Sm ⊢
  go_wp2_with fail
  have hc := over_any A2 n2 c2 bs A1 n1 c1 es w2 HT.out I2.out I1.out S2.out S1.out (by omega)
  rw [Ho'.out] at hc
  refine hc.mono ?_
  clear hc
  rintro e w3 ⟨rfl, b5⟩
  replace S1 := Lib.hid (S1.out.next b5)
  replace S2 := Lib.hid (S2.out.next b5)
  replace Sm := Lib.hid (Sm.out.next b5)
  replace HT := Lib.hid (HT.out.next b5)
  replace B := Lib.hid (thn B.out b5)
  clear b5
  go_wp2_with fail
  have hc := over_any A1 n1 c1 es A1 n1 c1 es w3 HT.out I1.out I1.out S1.out S1.out (by omega)
  rw [Hp.out] at hc
  refine hc.mono ?_
  clear hc
  rintro e w4 ⟨rfl, b5⟩
  replace S1 := Lib.hid (S1.out.next b5)
  replace S2 := Lib.hid (S2.out.next b5)
  replace Sm := Lib.hid (Sm.out.next b5)
  replace HT := Lib.hid (HT.out.next b5)
  replace B := Lib.hid (thn B.out b5)
  clear b5
  go_wp2_with fail
  have hc := over_any A2 n2 c2 bs A2 n2 c2 bs w4 HT.out I2.out I2.out S2.out S2.out (by omega)
  rw [Hq.out] at hc
  refine hc.mono ?_
  clear hc
  rintro e w5 ⟨rfl, b5⟩
  replace S1 := Lib.hid (S1.out.next b5)
  replace S2 := Lib.hid (S2.out.next b5)
  replace Sm := Lib.hid (Sm.out.next b5)
  replace HT := Lib.hid (HT.out.next b5)
  replace B := Lib.hid (thn B.out b5)
  clear b5
  go_wp2_with fail
  have hc := over_any Am nm cm m Am nm cm m w5 HT.out IM.out IM.out Sm.out Sm.out (by omega)
  rw [Hm'.out] at hc
  refine hc.mono ?_
  clear hc
  rintro e w6 ⟨rfl, b5⟩
  replace S1 := Lib.hid (S1.out.next b5)
  replace S2 := Lib.hid (S2.out.next b5)
  replace Sm := Lib.hid (Sm.out.next b5)
  replace HT := Lib.hid (HT.out.next b5)
  replace B := Lib.hid (thn B.out b5)
  clear b5
  go_wp2_with fail
  refine (awake_any w6 HT.out).mono ?_
  rintro e w7 ⟨rfl, b5⟩
  replace B := Lib.hid (thn B.out b5)
  clear b5
  go_wp2
  go_ret
  exact ⟨rfl, B.out⟩
end Go.Proofs.YtmajempbncllgaaDoor
