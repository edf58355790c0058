/- Layer 5: FilterMeet. -/
import Derived.Test.YtdgobdfggdmnpaaDoorFq
namespace Go.Proofs.YtdgobdfggdmnpaaDoor
open Go.RowKit
set_option linter.unusedVariables false
set_option maxHeartbeats 2000000 in
theorem fmeet_walk (A1 : Option Addr) (n1 c1 : Nat) (es : List (Int × Int)) (A2 : Option Addr) (n2 c2 : Nat) (bs : List (Int × Int)) (A3 : Option Addr) (n3 c3 : Nat) (xs : List Int) (w : World) (hT : Tab w) (i1 : ∀ p ∈ es, inR p) (i2 : ∀ p ∈ bs, inR p)
    (h1 : Sp w w.heap.size A1 n1 c1 es) (h2 : Sp w w.heap.size A2 n2 c2 bs) (h3 : Si w w.heap.size A3 n3 c3 xs) :
    Calls Tryd.prog 5 #[.slice A1 n1 c1, .slice A2 n2 c2, .slice A3 n3 c3] w fun e w' => e = .returned (.bool true) ∧ Below w.heap.size w w' := by
  have HT := Lib.hid hT
  have B := Lib.hid (Below.refl w.heap.size w)
  have S1 := Lib.hid h1
  have S2 := Lib.hid h2
  have S3 := Lib.hid h3
  have I1 := Lib.hid i1
  have I2 := Lib.hid i2
  have IM := Lib.hid (meetF_in' i1 i2)
  have HM := Lib.hid (match_meet es bs xs)
  have HC := Lib.hid (meetF_comm bs es)
  have HU := Lib.hid (same_self (meetF es bs))
  have HV := Lib.hid (covers_meet es bs)
  have HW := Lib.hid (covers_meet' es bs)
  obtain ⟨m, Hm⟩ : ∃ m, Hid (meetF es bs = m) := ⟨_, rfl⟩
  rw [Hm.out] at HM HC HU HV HW IM
  clear hT h1 h2 h3 i1 i2
  obtain ⟨z, HZ⟩ : ∃ z, Hid ((decide (n1 ≤ 8) && decide (n2 ≤ 8) && decide (n3 ≤ 8)) = z) := ⟨_, rfl⟩
  have HFw := few_any A1 n1 c1 A2 n2 c2 A3 n3 c3 w
  rw [HZ.out] at HFw
  replace HFw := Lib.hid HFw
  cases z
  · go_enter Tryd.func5, Tryd.ntmps5
    go_wp2_with fail
    refine HFw.out.mono ?_
    rintro e _ ⟨rfl, rfl⟩
    go_wp2_with fail
    refine (awake_any w HT.out).mono ?_
    rintro e w1 ⟨rfl, b5⟩
    replace B := Lib.hid (thn B.out b5)
    clear b5
    go_wp2
    go_ret
    exact ⟨rfl, B.out⟩
  · have hn8 : n1 ≤ 8 ∧ n2 ≤ 8 := by have := HZ.out; simp only [Bool.and_eq_true, decide_eq_true_eq] at this; exact this.1
    have hn1 : n1 ≤ 1000000 := by omega
    have hn2 : n2 ≤ 1000000 := by omega
    clear HZ
    obtain ⟨p, HP⟩ : ∃ p, Hid (matchF es xs = p) := ⟨_, rfl⟩
    obtain ⟨q, HQ⟩ : ∃ q, Hid (matchF bs xs = q) := ⟨_, rfl⟩
    rw [HP.out, HQ.out] at HM
    cases p
    · rw [Bool.false_and] at HM
      go_enter Tryd.func5, Tryd.ntmps5
      go_wp2_with fail
      refine HFw.out.mono ?_
      rintro e _ ⟨rfl, rfl⟩
      go_wp2_with fail
      have hc := meetF_any A1 n1 c1 es A2 n2 c2 bs w HT.out I1.out I2.out S1.out S2.out hn1
      rw [Hm.out] at hc
      refine hc.mono ?_
      clear hc
      rintro e w1 ⟨Am, cm, rfl, sm, b5⟩
      have Sm := Lib.hid sm
      clear sm
      replace S1 := Lib.hid (S1.out.next b5)
      replace S2 := Lib.hid (S2.out.next b5)
      replace S3 := Lib.hid (S3.out.next b5)
      replace HT := Lib.hid (HT.out.next b5)
      replace B := Lib.hid (thn B.out b5)
      clear b5
      go_wp2_with fail
      have hc := matchF_any Am m.length cm m A3 n3 c3 xs w1 IM.out Sm.out S3.out
      rw [HM.out] at hc
      refine hc.mono ?_
      clear hc
      rintro e w2 ⟨rfl, b5⟩
      replace S1 := Lib.hid (S1.out.next b5)
      replace S2 := Lib.hid (S2.out.next b5)
      replace S3 := Lib.hid (S3.out.next b5)
      replace Sm := Lib.hid (Sm.out.next b5)
      replace HT := Lib.hid (HT.out.next b5)
      replace B := Lib.hid (thn B.out b5)
      clear b5
      go_wp2_with fail
      have hc := matchF_any A1 n1 c1 es A3 n3 c3 xs w2 I1.out S1.out S3.out
      rw [HP.out] at hc
      refine hc.mono ?_
      clear hc
      rintro e w3 ⟨rfl, b5⟩
      replace S1 := Lib.hid (S1.out.next b5)
      replace S2 := Lib.hid (S2.out.next b5)
      replace S3 := Lib.hid (S3.out.next b5)
      replace Sm := Lib.hid (Sm.out.next b5)
      replace HT := Lib.hid (HT.out.next b5)
      replace B := Lib.hid (thn B.out b5)
      clear b5
      go_wp2_with fail
      have hc := meetF_any A2 n2 c2 bs A1 n1 c1 es w3 HT.out I2.out I1.out S2.out S1.out hn2
      rw [HC.out] at hc
      refine hc.mono ?_
      clear hc
      rintro e w4 ⟨Ak, ck, rfl, sk, b5⟩
      have Sk := Lib.hid sk
      clear sk
      replace S1 := Lib.hid (S1.out.next b5)
      replace S2 := Lib.hid (S2.out.next b5)
      replace S3 := Lib.hid (S3.out.next b5)
      replace Sm := Lib.hid (Sm.out.next b5)
      replace HT := Lib.hid (HT.out.next b5)
      replace B := Lib.hid (thn B.out b5)
      clear b5
      go_wp2_with fail
      have hc := sameF_any Am m.length cm m Ak m.length ck m w4  Sm.out Sk.out
      rw [HU.out] at hc
      refine hc.mono ?_
      clear hc
      rintro e w5 ⟨rfl, b5⟩
      replace S1 := Lib.hid (S1.out.next b5)
      replace S2 := Lib.hid (S2.out.next b5)
      replace S3 := Lib.hid (S3.out.next b5)
      replace Sm := Lib.hid (Sm.out.next b5)
      replace Sk := Lib.hid (Sk.out.next b5)
      replace HT := Lib.hid (HT.out.next b5)
      replace B := Lib.hid (thn B.out b5)
      clear b5
      go_wp2_with fail
      have hc := coversF_any A1 n1 c1 es Am m.length cm m w5 HT.out I1.out IM.out S1.out Sm.out
      rw [HV.out] at hc
      refine hc.mono ?_
      clear hc
      rintro e w6 ⟨rfl, b5⟩
      replace S1 := Lib.hid (S1.out.next b5)
      replace S2 := Lib.hid (S2.out.next b5)
      replace S3 := Lib.hid (S3.out.next b5)
      replace Sm := Lib.hid (Sm.out.next b5)
      replace Sk := Lib.hid (Sk.out.next b5)
      replace HT := Lib.hid (HT.out.next b5)
      replace B := Lib.hid (thn B.out b5)
      clear b5
      go_wp2_with fail
      have hc := coversF_any A2 n2 c2 bs Am m.length cm m w6 HT.out I2.out IM.out S2.out Sm.out
      rw [HW.out] at hc
      refine hc.mono ?_
      clear hc
      rintro e w7 ⟨rfl, b5⟩
      replace S1 := Lib.hid (S1.out.next b5)
      replace S2 := Lib.hid (S2.out.next b5)
      replace S3 := Lib.hid (S3.out.next b5)
      replace Sm := Lib.hid (Sm.out.next b5)
      replace Sk := Lib.hid (Sk.out.next b5)
      replace HT := Lib.hid (HT.out.next b5)
      replace B := Lib.hid (thn B.out b5)
      clear b5
      go_wp2_with fail
      refine (awake_any w7 HT.out).mono ?_
      rintro e w8 ⟨rfl, b5⟩
      replace B := Lib.hid (thn B.out b5)
      clear b5
      go_wp2
      go_ret
      exact ⟨rfl, B.out⟩
    · rw [Bool.true_and] at HM
      cases q
      · go_enter Tryd.func5, Tryd.ntmps5
        go_wp2_with fail
        refine HFw.out.mono ?_
        rintro e _ ⟨rfl, rfl⟩
        go_wp2_with fail
        have hc := meetF_any A1 n1 c1 es A2 n2 c2 bs w HT.out I1.out I2.out S1.out S2.out hn1
        rw [Hm.out] at hc
        refine hc.mono ?_
        clear hc
        rintro e w1 ⟨Am, cm, rfl, sm, b5⟩
        have Sm := Lib.hid sm
        clear sm
        replace S1 := Lib.hid (S1.out.next b5)
        replace S2 := Lib.hid (S2.out.next b5)
        replace S3 := Lib.hid (S3.out.next b5)
        replace HT := Lib.hid (HT.out.next b5)
        replace B := Lib.hid (thn B.out b5)
        clear b5
        go_wp2_with fail
        have hc := matchF_any Am m.length cm m A3 n3 c3 xs w1 IM.out Sm.out S3.out
        rw [HM.out] at hc
        refine hc.mono ?_
        clear hc
        rintro e w2 ⟨rfl, b5⟩
        replace S1 := Lib.hid (S1.out.next b5)
        replace S2 := Lib.hid (S2.out.next b5)
        replace S3 := Lib.hid (S3.out.next b5)
        replace Sm := Lib.hid (Sm.out.next b5)
        replace HT := Lib.hid (HT.out.next b5)
        replace B := Lib.hid (thn B.out b5)
        clear b5
        go_wp2_with fail
        have hc := matchF_any A1 n1 c1 es A3 n3 c3 xs w2 I1.out S1.out S3.out
        rw [HP.out] at hc
        refine hc.mono ?_
        clear hc
        rintro e w3 ⟨rfl, b5⟩
        replace S1 := Lib.hid (S1.out.next b5)
        replace S2 := Lib.hid (S2.out.next b5)
        replace S3 := Lib.hid (S3.out.next b5)
        replace Sm := Lib.hid (Sm.out.next b5)
        replace HT := Lib.hid (HT.out.next b5)
        replace B := Lib.hid (thn B.out b5)
        clear b5
        go_wp2_with fail
        have hc := matchF_any A2 n2 c2 bs A3 n3 c3 xs w3 I2.out S2.out S3.out
        rw [HQ.out] at hc
        refine hc.mono ?_
        clear hc
        rintro e w4 ⟨rfl, b5⟩
        replace S1 := Lib.hid (S1.out.next b5)
        replace S2 := Lib.hid (S2.out.next b5)
        replace S3 := Lib.hid (S3.out.next b5)
        replace Sm := Lib.hid (Sm.out.next b5)
        replace HT := Lib.hid (HT.out.next b5)
        replace B := Lib.hid (thn B.out b5)
        clear b5
        go_wp2_with fail
        have hc := meetF_any A2 n2 c2 bs A1 n1 c1 es w4 HT.out I2.out I1.out S2.out S1.out hn2
        rw [HC.out] at hc
        refine hc.mono ?_
        clear hc
        rintro e w5 ⟨Ak, ck, rfl, sk, b5⟩
        have Sk := Lib.hid sk
        clear sk
        replace S1 := Lib.hid (S1.out.next b5)
        replace S2 := Lib.hid (S2.out.next b5)
        replace S3 := Lib.hid (S3.out.next b5)
        replace Sm := Lib.hid (Sm.out.next b5)
        replace HT := Lib.hid (HT.out.next b5)
        replace B := Lib.hid (thn B.out b5)
        clear b5
        go_wp2_with fail
        have hc := sameF_any Am m.length cm m Ak m.length ck m w5  Sm.out Sk.out
        rw [HU.out] at hc
        refine hc.mono ?_
        clear hc
        rintro e w6 ⟨rfl, b5⟩
        replace S1 := Lib.hid (S1.out.next b5)
        replace S2 := Lib.hid (S2.out.next b5)
        replace S3 := Lib.hid (S3.out.next b5)
        replace Sm := Lib.hid (Sm.out.next b5)
        replace Sk := Lib.hid (Sk.out.next b5)
        replace HT := Lib.hid (HT.out.next b5)
        replace B := Lib.hid (thn B.out b5)
        clear b5
        go_wp2_with fail
        have hc := coversF_any A1 n1 c1 es Am m.length cm m w6 HT.out I1.out IM.out S1.out Sm.out
        rw [HV.out] at hc
        refine hc.mono ?_
        clear hc
        rintro e w7 ⟨rfl, b5⟩
        replace S1 := Lib.hid (S1.out.next b5)
        replace S2 := Lib.hid (S2.out.next b5)
        replace S3 := Lib.hid (S3.out.next b5)
        replace Sm := Lib.hid (Sm.out.next b5)
        replace Sk := Lib.hid (Sk.out.next b5)
        replace HT := Lib.hid (HT.out.next b5)
        replace B := Lib.hid (thn B.out b5)
        clear b5
        go_wp2_with fail
        have hc := coversF_any A2 n2 c2 bs Am m.length cm m w7 HT.out I2.out IM.out S2.out Sm.out
        rw [HW.out] at hc
        refine hc.mono ?_
        clear hc
        rintro e w8 ⟨rfl, b5⟩
        replace S1 := Lib.hid (S1.out.next b5)
        replace S2 := Lib.hid (S2.out.next b5)
        replace S3 := Lib.hid (S3.out.next b5)
        replace Sm := Lib.hid (Sm.out.next b5)
        replace Sk := Lib.hid (Sk.out.next b5)
        replace HT := Lib.hid (HT.out.next b5)
        replace B := Lib.hid (thn B.out b5)
        clear b5
        go_wp2_with fail
        refine (awake_any w8 HT.out).mono ?_
        rintro e w9 ⟨rfl, b5⟩
        replace B := Lib.hid (thn B.out b5)
        clear b5
        go_wp2
        go_ret
        exact ⟨rfl, B.out⟩
      · go_enter Tryd.func5, Tryd.ntmps5
        go_wp2_with fail
        refine HFw.out.mono ?_
        rintro e _ ⟨rfl, rfl⟩
        go_wp2_with fail
        have hc := meetF_any A1 n1 c1 es A2 n2 c2 bs w HT.out I1.out I2.out S1.out S2.out hn1
        rw [Hm.out] at hc
        refine hc.mono ?_
        clear hc
        rintro e w1 ⟨Am, cm, rfl, sm, b5⟩
        have Sm := Lib.hid sm
        clear sm
        replace S1 := Lib.hid (S1.out.next b5)
        replace S2 := Lib.hid (S2.out.next b5)
        replace S3 := Lib.hid (S3.out.next b5)
        replace HT := Lib.hid (HT.out.next b5)
        replace B := Lib.hid (thn B.out b5)
        clear b5
        go_wp2_with fail
        have hc := matchF_any Am m.length cm m A3 n3 c3 xs w1 IM.out Sm.out S3.out
        rw [HM.out] at hc
        refine hc.mono ?_
        clear hc
        rintro e w2 ⟨rfl, b5⟩
        replace S1 := Lib.hid (S1.out.next b5)
        replace S2 := Lib.hid (S2.out.next b5)
        replace S3 := Lib.hid (S3.out.next b5)
        replace Sm := Lib.hid (Sm.out.next b5)
        replace HT := Lib.hid (HT.out.next b5)
        replace B := Lib.hid (thn B.out b5)
        clear b5
        go_wp2_with fail
        have hc := matchF_any A1 n1 c1 es A3 n3 c3 xs w2 I1.out S1.out S3.out
        rw [HP.out] at hc
        refine hc.mono ?_
        clear hc
        rintro e w3 ⟨rfl, b5⟩
        replace S1 := Lib.hid (S1.out.next b5)
        replace S2 := Lib.hid (S2.out.next b5)
        replace S3 := Lib.hid (S3.out.next b5)
        replace Sm := Lib.hid (Sm.out.next b5)
        replace HT := Lib.hid (HT.out.next b5)
        replace B := Lib.hid (thn B.out b5)
        clear b5
        go_wp2_with fail
        have hc := matchF_any A2 n2 c2 bs A3 n3 c3 xs w3 I2.out S2.out S3.out
        rw [HQ.out] at hc
        refine hc.mono ?_
        clear hc
        rintro e w4 ⟨rfl, b5⟩
        replace S1 := Lib.hid (S1.out.next b5)
        replace S2 := Lib.hid (S2.out.next b5)
        replace S3 := Lib.hid (S3.out.next b5)
        replace Sm := Lib.hid (Sm.out.next b5)
        replace HT := Lib.hid (HT.out.next b5)
        replace B := Lib.hid (thn B.out b5)
        clear b5
        go_wp2_with fail
        have hc := meetF_any A2 n2 c2 bs A1 n1 c1 es w4 HT.out I2.out I1.out S2.out S1.out hn2
        rw [HC.out] at hc
        refine hc.mono ?_
        clear hc
        rintro e w5 ⟨Ak, ck, rfl, sk, b5⟩
        have Sk := Lib.hid sk
        clear sk
        replace S1 := Lib.hid (S1.out.next b5)
        replace S2 := Lib.hid (S2.out.next b5)
        replace S3 := Lib.hid (S3.out.next b5)
        replace Sm := Lib.hid (Sm.out.next b5)
        replace HT := Lib.hid (HT.out.next b5)
        replace B := Lib.hid (thn B.out b5)
        clear b5
        go_wp2_with fail
        have hc := sameF_any Am m.length cm m Ak m.length ck m w5  Sm.out Sk.out
        rw [HU.out] at hc
        refine hc.mono ?_
        clear hc
        rintro e w6 ⟨rfl, b5⟩
        replace S1 := Lib.hid (S1.out.next b5)
        replace S2 := Lib.hid (S2.out.next b5)
        replace S3 := Lib.hid (S3.out.next b5)
        replace Sm := Lib.hid (Sm.out.next b5)
        replace Sk := Lib.hid (Sk.out.next b5)
        replace HT := Lib.hid (HT.out.next b5)
        replace B := Lib.hid (thn B.out b5)
        clear b5
        go_wp2_with fail
        have hc := coversF_any A1 n1 c1 es Am m.length cm m w6 HT.out I1.out IM.out S1.out Sm.out
        rw [HV.out] at hc
        refine hc.mono ?_
        clear hc
        rintro e w7 ⟨rfl, b5⟩
        replace S1 := Lib.hid (S1.out.next b5)
        replace S2 := Lib.hid (S2.out.next b5)
        replace S3 := Lib.hid (S3.out.next b5)
        replace Sm := Lib.hid (Sm.out.next b5)
        replace Sk := Lib.hid (Sk.out.next b5)
        replace HT := Lib.hid (HT.out.next b5)
        replace B := Lib.hid (thn B.out b5)
        clear b5
        go_wp2_with fail
        have hc := coversF_any A2 n2 c2 bs Am m.length cm m w7 HT.out I2.out IM.out S2.out Sm.out
        rw [HW.out] at hc
        refine hc.mono ?_
        clear hc
        rintro e w8 ⟨rfl, b5⟩
        replace S1 := Lib.hid (S1.out.next b5)
        replace S2 := Lib.hid (S2.out.next b5)
        replace S3 := Lib.hid (S3.out.next b5)
        replace Sm := Lib.hid (Sm.out.next b5)
        replace Sk := Lib.hid (Sk.out.next b5)
        replace HT := Lib.hid (HT.out.next b5)
        replace B := Lib.hid (thn B.out b5)
        clear b5
        go_wp2_with fail
        refine (awake_any w8 HT.out).mono ?_
        rintro e w9 ⟨rfl, b5⟩
        replace B := Lib.hid (thn B.out b5)
        clear b5
        go_wp2
        go_ret
        exact ⟨rfl, B.out⟩
end Go.Proofs.YtdgobdfggdmnpaaDoor
