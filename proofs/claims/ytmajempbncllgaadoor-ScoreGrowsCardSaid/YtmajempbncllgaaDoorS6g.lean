/- Layer 6: ScoreGrows. -/
import Derived.Test.YtmajempbncllgaaDoorKw
import Derived.Test.YtmajempbncllgaaDoorSch2
namespace Go.Proofs.YtmajempbncllgaaDoor
open Go.RowKit
set_option linter.unusedVariables false
set_option maxHeartbeats 2000000 in
theorem sgrows_walk (A1 : Option Addr) (n1 c1 : Nat) (es : List (Int × Int)) (A2 : Option Addr) (n2 c2 : Nat) (bs : List (Int × Int)) (A3 : Option Addr) (n3 c3 : Nat) (cs : List (Int × Int)) (w : World) (hT : Tab w) (i1 : ∀ p ∈ es, inR p) (i2 : ∀ p ∈ bs, inR p) (i3 : ∀ p ∈ cs, inR p)
    (h1 : Sp w w.heap.size A1 n1 c1 es) (h2 : Sp w w.heap.size A2 n2 c2 bs) (h3 : Sp w w.heap.size A3 n3 c3 cs) :
    Calls Tryd.prog 5 #[.slice A1 n1 c1, .slice A2 n2 c2, .slice A3 n3 c3] w fun e w' => e = .returned (.bool true) ∧ Below w.heap.size w w' := by
  have IM := Lib.hid (meetF_in' i1 i3)
  have HL1 := Lib.hid (sp_len h1)
  have HT := Lib.hid hT
  have B := Lib.hid (Below.refl w.heap.size w)
  have S1 := Lib.hid h1
  have I1 := Lib.hid i1
  have S2 := Lib.hid h2
  have I2 := Lib.hid i2
  have S3 := Lib.hid h3
  have I3 := Lib.hid i3
  clear hT h1 i1 h2 i2 h3 i3
  by_cases fn1 : n1 ≤ 8
  rotate_left
  · have en1 : (8 : Int) < (n1 : Int) := by omega
    go_enter Tryd.func5, Tryd.ntmps5
    go_wp2_with fail
    refine (awake_any w HT.out).mono ?_
    rintro e w1 ⟨rfl, b5⟩
    replace B := Lib.hid (thn B.out b5)
    clear b5
    go_wp2
    go_ret
    exact ⟨rfl, B.out⟩
  have en1 : (n1 : Int) ≤ 8 := by omega
  by_cases fn2 : n2 ≤ 8
  rotate_left
  · have en2 : (8 : Int) < (n2 : Int) := by omega
    go_enter Tryd.func5, Tryd.ntmps5
    go_wp2_with fail
    refine (awake_any w HT.out).mono ?_
    rintro e w1 ⟨rfl, b5⟩
    replace B := Lib.hid (thn B.out b5)
    clear b5
    go_wp2
    go_ret
    exact ⟨rfl, B.out⟩
  have en2 : (n2 : Int) ≤ 8 := by omega
  by_cases fn3 : n3 ≤ 8
  rotate_left
  · have en3 : (8 : Int) < (n3 : Int) := by omega
    go_enter Tryd.func5, Tryd.ntmps5
    go_wp2_with fail
    refine (awake_any w HT.out).mono ?_
    rintro e w1 ⟨rfl, b5⟩
    replace B := Lib.hid (thn B.out b5)
    clear b5
    go_wp2
    go_ret
    exact ⟨rfl, B.out⟩
  have en3 : (n3 : Int) ≤ 8 := by omega
  have HML : Hid ((meetF es cs).length ≤ 8) := by
    have := meetF_len es cs
    have := HL1.out
    unfold Hid
    omega
  obtain ⟨o, Ho⟩ : ∃ o, Hid (overF es bs = o) := ⟨_, rfl⟩
  obtain ⟨p, Hp⟩ : ∃ p, Hid (overF (meetF es cs) bs = p) := ⟨_, rfl⟩
  have hpo : p ≤ o := by rw [← Ho.out, ← Hp.out]; exact overF_part es cs bs
  obtain ⟨v, Hv⟩ : ∃ v, Hid (coversF bs es = v) := ⟨_, rfl⟩
  have HC : Hid (v = true → overF es es = o) := fun h => by rw [← Ho.out]; exact (overF_covers (Hv.out.trans h)).symm
  obtain ⟨m, Hm⟩ : ∃ m, Hid (meetF es cs = m) := ⟨_, rfl⟩
  rw [Hm.out] at Hp IM HML
  obtain ⟨nm, Hnm⟩ : ∃ nm, Hid (m.length = nm) := ⟨_, rfl⟩
  rw [Hnm.out] at HML
  have HML := HML.out
  cases v
  · clear HC
    go_enter Tryd.func5, Tryd.ntmps5
    go_wp2_with fail
    have hc := meetF_any A1 n1 c1 es A3 n3 c3 cs w HT.out I1.out I3.out S1.out S3.out (by omega)
    rw [Hm.out] at hc
    refine hc.mono ?_
    clear hc
    rintro e w1 ⟨Am, cm, rfl, sm, b5⟩
    have Sm := Lib.hid sm
    clear sm
    replace S1 := Lib.hid (S1.out.next b5)
    replace S2 := Lib.hid (S2.out.next b5)
    replace S3 := Lib.hid (S3.out.next b5)
    replace HT := Lib.hid (HT.out.next b5)
    replace B := Lib.hid (thn B.out b5)
    clear b5
    rw [Hnm.out] at Sm ⊢
    go_wp2_with fail
    have hc := over_any Am nm cm m A2 n2 c2 bs w1 HT.out IM.out I2.out Sm.out S2.out (by omega)
    rw [Hp.out] at hc
    refine hc.mono ?_
    clear hc
    rintro e w2 ⟨rfl, b5⟩
    replace S1 := Lib.hid (S1.out.next b5)
    replace S2 := Lib.hid (S2.out.next b5)
    replace S3 := Lib.hid (S3.out.next b5)
    replace Sm := Lib.hid (Sm.out.next b5)
    replace HT := Lib.hid (HT.out.next b5)
    replace B := Lib.hid (thn B.out b5)
    clear b5
    go_wp2_with fail
    have hc := over_any A1 n1 c1 es A2 n2 c2 bs w2 HT.out I1.out I2.out S1.out S2.out (by omega)
    rw [Ho.out] at hc
    refine hc.mono ?_
    clear hc
    rintro e w3 ⟨rfl, b5⟩
    replace S1 := Lib.hid (S1.out.next b5)
    replace S2 := Lib.hid (S2.out.next b5)
    replace S3 := Lib.hid (S3.out.next b5)
    replace Sm := Lib.hid (Sm.out.next b5)
    replace HT := Lib.hid (HT.out.next b5)
    replace B := Lib.hid (thn B.out b5)
    clear b5
    go_wp2_with fail
    have hc := coversF_any A2 n2 c2 bs A1 n1 c1 es w3 HT.out I2.out I1.out S2.out S1.out
    rw [Hv.out] at hc
    refine hc.mono ?_
    clear hc
    rintro e w4 ⟨rfl, b5⟩
    replace S1 := Lib.hid (S1.out.next b5)
    replace S2 := Lib.hid (S2.out.next b5)
    replace S3 := Lib.hid (S3.out.next b5)
    replace Sm := Lib.hid (Sm.out.next b5)
    replace HT := Lib.hid (HT.out.next b5)
    replace B := Lib.hid (thn B.out b5)
    clear b5
    go_wp2_with fail
    refine (awake_any w4 HT.out).mono ?_
    rintro e w5 ⟨rfl, b5⟩
    replace B := Lib.hid (thn B.out b5)
    clear b5
    go_wp2
    go_ret
    exact ⟨rfl, B.out⟩
  · have HC2 : Hid (overF es es = o) := HC.out rfl
    clear HC
    go_enter Tryd.func5, Tryd.ntmps5
    go_wp2_with fail
    have hc := meetF_any A1 n1 c1 es A3 n3 c3 cs w HT.out I1.out I3.out S1.out S3.out (by omega)
    rw [Hm.out] at hc
    refine hc.mono ?_
    clear hc
    rintro e w1 ⟨Am, cm, rfl, sm, b5⟩
    have Sm := Lib.hid sm
    clear sm
    replace S1 := Lib.hid (S1.out.next b5)
    replace S2 := Lib.hid (S2.out.next b5)
    replace S3 := Lib.hid (S3.out.next b5)
    replace HT := Lib.hid (HT.out.next b5)
    replace B := Lib.hid (thn B.out b5)
    clear b5
    rw [Hnm.out] at Sm ⊢
    go_wp2_with fail
    have hc := over_any Am nm cm m A2 n2 c2 bs w1 HT.out IM.out I2.out Sm.out S2.out (by omega)
    rw [Hp.out] at hc
    refine hc.mono ?_
    clear hc
    rintro e w2 ⟨rfl, b5⟩
    replace S1 := Lib.hid (S1.out.next b5)
    replace S2 := Lib.hid (S2.out.next b5)
    replace S3 := Lib.hid (S3.out.next b5)
    replace Sm := Lib.hid (Sm.out.next b5)
    replace HT := Lib.hid (HT.out.next b5)
    replace B := Lib.hid (thn B.out b5)
    clear b5
    go_wp2_with fail
    have hc := over_any A1 n1 c1 es A2 n2 c2 bs w2 HT.out I1.out I2.out S1.out S2.out (by omega)
    rw [Ho.out] at hc
    refine hc.mono ?_
    clear hc
    rintro e w3 ⟨rfl, b5⟩
    replace S1 := Lib.hid (S1.out.next b5)
    replace S2 := Lib.hid (S2.out.next b5)
    replace S3 := Lib.hid (S3.out.next b5)
    replace Sm := Lib.hid (Sm.out.next b5)
    replace HT := Lib.hid (HT.out.next b5)
    replace B := Lib.hid (thn B.out b5)
    clear b5
    go_wp2_with fail
    have hc := coversF_any A2 n2 c2 bs A1 n1 c1 es w3 HT.out I2.out I1.out S2.out S1.out
    rw [Hv.out] at hc
    refine hc.mono ?_
    clear hc
    rintro e w4 ⟨rfl, b5⟩
    replace S1 := Lib.hid (S1.out.next b5)
    replace S2 := Lib.hid (S2.out.next b5)
    replace S3 := Lib.hid (S3.out.next b5)
    replace Sm := Lib.hid (Sm.out.next b5)
    replace HT := Lib.hid (HT.out.next b5)
    replace B := Lib.hid (thn B.out b5)
    clear b5
    go_wp2_with fail
    have hc := over_any A1 n1 c1 es A2 n2 c2 bs w4 HT.out I1.out I2.out S1.out S2.out (by omega)
    rw [Ho.out] at hc
    refine hc.mono ?_
    clear hc
    rintro e w5 ⟨rfl, b5⟩
    replace S1 := Lib.hid (S1.out.next b5)
    replace S2 := Lib.hid (S2.out.next b5)
    replace S3 := Lib.hid (S3.out.next b5)
    replace Sm := Lib.hid (Sm.out.next b5)
    replace HT := Lib.hid (HT.out.next b5)
    replace B := Lib.hid (thn B.out b5)
    clear b5
    go_wp2_with fail
    have hc := over_any A1 n1 c1 es A1 n1 c1 es w5 HT.out I1.out I1.out S1.out S1.out (by omega)
    rw [HC2.out] at hc
    refine hc.mono ?_
    clear hc
    rintro e w6 ⟨rfl, b5⟩
    replace S1 := Lib.hid (S1.out.next b5)
    replace S2 := Lib.hid (S2.out.next b5)
    replace S3 := Lib.hid (S3.out.next b5)
    replace Sm := Lib.hid (Sm.out.next b5)
    replace HT := Lib.hid (HT.out.next b5)
    replace B := Lib.hid (thn B.out b5)
    clear b5
    go_wp2_with fail
    refine (awake_any w6 HT.out).mono ?_
    rintro e w7 ⟨rfl, b5⟩
    replace B := Lib.hid (thn B.out b5)
    clear b5
    go_wp2
    go_ret
    exact ⟨rfl, B.out⟩
end Go.Proofs.YtmajempbncllgaaDoor
