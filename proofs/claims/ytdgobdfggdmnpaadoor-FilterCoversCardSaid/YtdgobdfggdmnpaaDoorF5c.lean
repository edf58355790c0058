/- Layer 5: FilterCovers. -/
import Derived.Test.YtdgobdfggdmnpaaDoorFq
namespace Go.Proofs.YtdgobdfggdmnpaaDoor
open Go.RowKit
set_option linter.unusedVariables false
theorem cov_refl (p : Int × Int) : covB p p = true := by
  unfold covB
  simp
theorem cov_trans {p q r : Int × Int} (h : covB p q = true) (k : covB q r = true) : covB p r = true := by
  unfold covB at *
  simp only [Bool.and_eq_true, Bool.or_eq_true, decide_eq_true_eq] at *
  omega
theorem cov_has {p q : Int × Int} {v : Int} (h : covB p q = true) (k : hasB q v = true) : hasB p v = true := by
  unfold covB hasB at *
  simp only [Bool.and_eq_true, Bool.or_eq_true, decide_eq_true_eq] at *
  omega
theorem zip_refl : ∀ es : List (Int × Int), ((es.zip es).all fun x => covB x.1 x.2) = true
  | [] => rfl
  | e :: es => by simp only [List.zip_cons_cons, List.all_cons, cov_refl, zip_refl es, Bool.and_self]
theorem zip_trans : ∀ (es bs cs : List (Int × Int)), es.length = bs.length → bs.length = cs.length → ((es.zip bs).all fun x => covB x.1 x.2) = true → ((bs.zip cs).all fun x => covB x.1 x.2) = true → ((es.zip cs).all fun x => covB x.1 x.2) = true
  | [], _, _, _, _, _, _ => rfl
  | _ :: _, _, [], _, _, _, _ => rfl
  | e :: es, b :: bs, c :: cs, h1, h2, h3, h4 => by
    simp only [List.zip_cons_cons, List.all_cons, Bool.and_eq_true] at h3 h4 ⊢
    exact ⟨cov_trans h3.1 h4.1, zip_trans es bs cs (by simpa using h1) (by simpa using h2) h3.2 h4.2⟩
  | _ :: _, [], _ :: _, h, _, _, _ => by cases h
theorem zip_has : ∀ (es bs : List (Int × Int)) (xs : List Int), es.length = bs.length → ((es.zip bs).all fun x => covB x.1 x.2) = true → ((bs.zip xs).all fun x => hasB x.1 x.2) = true → ((es.zip xs).all fun x => hasB x.1 x.2) = true
  | [], _, _, _, _, _ => rfl
  | _ :: _, _, [], _, _, _ => rfl
  | e :: es, b :: bs, x :: xs, h1, h3, h4 => by
    simp only [List.zip_cons_cons, List.all_cons, Bool.and_eq_true] at h3 h4 ⊢
    exact ⟨cov_has h3.1 h4.1, zip_has es bs xs (by simpa using h1) h3.2 h4.2⟩
  | _ :: _, [], _ :: _, h, _, _ => by cases h
theorem covers_refl (es : List (Int × Int)) : coversF es es = true := by unfold coversF; rw [zip_refl]; simp
theorem covers_nil (es : List (Int × Int)) : coversF es [] = true := by unfold coversF; simp
theorem coversF_get {es bs : List (Int × Int)} (h : coversF es bs = true) : bs.length = 0 ∨ (es.length = bs.length ∧ ((es.zip bs).all fun x => covB x.1 x.2) = true) := by
  unfold coversF at h
  simp only [Bool.and_eq_true, Bool.or_eq_true, decide_eq_true_eq] at h
  exact h
theorem covers_trans {es bs cs : List (Int × Int)} (h : coversF es bs = true) (k : coversF bs cs = true) : coversF es cs = true := by
  rcases coversF_get k with h0 | ⟨k1, k2⟩
  · unfold coversF; rw [h0]; simp
  · rcases coversF_get h with h0 | ⟨h1, h2⟩
    · unfold coversF; rw [← k1, h0]; simp
    · unfold coversF
      rw [zip_trans es bs cs h1 k1 h2 k2, decide_eq_true (h1.trans k1)]; simp
theorem covers_match {es bs : List (Int × Int)} {xs : List Int} (h : coversF es bs = true) (k : matchF bs xs = true) : matchF es xs = true := by
  unfold matchF at k ⊢
  simp only [Bool.and_eq_true, decide_eq_true_eq] at k ⊢
  rcases coversF_get h with h0 | ⟨h1, h2⟩
  · omega
  · exact ⟨⟨h1.trans k.1.1, by omega⟩, zip_has es bs xs h1 h2 k.2⟩
theorem same_covers {es bs : List (Int × Int)} (h : sameF (meetF es bs) bs = true) : coversF es bs = true := by
  have e : meetF es bs = bs := of_decide_eq_true h
  have := covers_meet es bs
  rwa [e] at this
set_option maxHeartbeats 20000000 in
theorem fcovers_walk (A1 : Option Addr) (n1 c1 : Nat) (es : List (Int × Int)) (A2 : Option Addr) (n2 c2 : Nat) (bs : List (Int × Int)) (A4 : Option Addr) (n4 c4 : Nat) (cs : List (Int × Int)) (A3 : Option Addr) (n3 c3 : Nat) (xs : List Int) (w : World) (hT : Tab w) (i1 : ∀ p ∈ es, inR p) (i2 : ∀ p ∈ bs, inR p) (i4 : ∀ p ∈ cs, inR p)
    (h1 : Sp w w.heap.size A1 n1 c1 es) (h2 : Sp w w.heap.size A2 n2 c2 bs) (h4 : Sp w w.heap.size A4 n4 c4 cs) (h3 : Si w w.heap.size A3 n3 c3 xs) :
    Calls Tryd.prog 6 #[.slice A1 n1 c1, .slice A2 n2 c2, .slice A4 n4 c4, .slice A3 n3 c3] w fun e w' => e = .returned (.bool true) ∧ Below w.heap.size w w' := by
  have HT := Lib.hid hT
  have B := Lib.hid (Below.refl w.heap.size w)
  have S1 := Lib.hid h1
  have S2 := Lib.hid h2
  have S3 := Lib.hid h3
  have S4 := Lib.hid h4
  have I1 := Lib.hid i1
  have I2 := Lib.hid i2
  have I4 := Lib.hid i4
  have IM := Lib.hid (meetF_in' i1 i2)
  have H0 := Lib.hid (covers_refl es)
  have H00 := Lib.hid (covers_nil es)
  have IN : Hid (∀ p ∈ ([] : List (Int × Int)), inR p) := fun p hp => by cases hp
  have HL2 := Lib.hid (sp_len h2)
  obtain ⟨m, Hm⟩ : ∃ m, Hid (meetF es bs = m) := ⟨_, rfl⟩
  have HS : Hid (sameF m bs = true → coversF es bs = true) := fun h => same_covers (by rw [Hm.out]; exact h)
  rw [Hm.out] at IM
  clear hT h1 h2 h3 h4 i1 i2 i4
  obtain ⟨z, HZ⟩ : ∃ z, Hid ((decide (n1 ≤ 8) && decide (n2 ≤ 8) && decide (n3 ≤ 8)) = z) := ⟨_, rfl⟩
  have HFw := few_any A1 n1 c1 A2 n2 c2 A3 n3 c3 w
  rw [HZ.out] at HFw
  replace HFw := Lib.hid HFw
  cases z
  · go_enter Tryd.func6, Tryd.ntmps6
    go_wp2_with fail
    refine HFw.out.mono ?_
    rintro e _ ⟨rfl, rfl⟩
    go_wp2_with fail
    refine (awake_any w HT.out).mono ?_
    rintro e w1 ⟨rfl, b5⟩
    replace B := Lib.hid (thn B.out b5)
    clear b5
    go_wp2
    go_ret
    exact ⟨rfl, B.out⟩
  · have hn8 : n1 ≤ 8 ∧ n2 ≤ 8 := by have := HZ.out; simp only [Bool.and_eq_true, decide_eq_true_eq] at this; exact this.1
    have hn1 : n1 ≤ 1000000 := by omega
    clear HZ
    by_cases hn4 : 8 < n4
    · have hn4' : (8 : Int) < n4 := by omega
      go_enter Tryd.func6, Tryd.ntmps6
      go_wp2_with fail
      refine HFw.out.mono ?_
      rintro e _ ⟨rfl, rfl⟩
      go_wp2_with fail
      refine (awake_any w HT.out).mono ?_
      rintro e w1 ⟨rfl, b5⟩
      replace B := Lib.hid (thn B.out b5)
      clear b5
      go_wp2
      go_ret
      exact ⟨rfl, B.out⟩
    have hn4' : (n4 : Int) ≤ 8 := by omega
    obtain ⟨p, HP⟩ : ∃ p, Hid (coversF es bs = p) := ⟨_, rfl⟩
    obtain ⟨y, HY⟩ : ∃ y, Hid (sameF m bs = y) := ⟨_, rfl⟩
    rw [HP.out, HY.out] at HS
    cases p
    · obtain rfl : y = false := Bool.eq_false_iff.2 fun h => by have := HS.out h; cases this
      by_cases h0 : n2 = 0
      · subst h0
        go_enter Tryd.func6, Tryd.ntmps6
        go_wp2_with fail
        refine HFw.out.mono ?_
        rintro e _ ⟨rfl, rfl⟩
        go_wp2_with fail
        have hc := coversF_any A1 n1 c1 es A2 0 c2 bs w HT.out I1.out I2.out S1.out S2.out
        rw [HP.out] at hc
        refine hc.mono ?_
        clear hc
        rintro e w1 ⟨rfl, b5⟩
        replace S1 := Lib.hid (S1.out.next b5)
        replace S2 := Lib.hid (S2.out.next b5)
        replace S3 := Lib.hid (S3.out.next b5)
        replace S4 := Lib.hid (S4.out.next b5)
        replace HT := Lib.hid (HT.out.next b5)
        replace B := Lib.hid (thn B.out b5)
        clear b5
        go_wp2_with fail
        have hc := coversF_any A1 n1 c1 es A2 0 c2 bs w1 HT.out I1.out I2.out S1.out S2.out
        rw [HP.out] at hc
        refine hc.mono ?_
        clear hc
        rintro e w2 ⟨rfl, b5⟩
        replace S1 := Lib.hid (S1.out.next b5)
        replace S2 := Lib.hid (S2.out.next b5)
        replace S3 := Lib.hid (S3.out.next b5)
        replace S4 := Lib.hid (S4.out.next b5)
        replace HT := Lib.hid (HT.out.next b5)
        replace B := Lib.hid (thn B.out b5)
        clear b5
        go_wp2_with fail
        have hc := coversF_any A1 n1 c1 es A1 n1 c1 es w2 HT.out I1.out I1.out S1.out S1.out
        rw [H0.out] at hc
        refine hc.mono ?_
        clear hc
        rintro e w3 ⟨rfl, b5⟩
        replace S1 := Lib.hid (S1.out.next b5)
        replace S2 := Lib.hid (S2.out.next b5)
        replace S3 := Lib.hid (S3.out.next b5)
        replace S4 := Lib.hid (S4.out.next b5)
        replace HT := Lib.hid (HT.out.next b5)
        replace B := Lib.hid (thn B.out b5)
        clear b5
        go_wp2_with fail
        have hc := coversF_any A1 n1 c1 es none 0 0 [] w3 HT.out I1.out IN.out S1.out (sp_zero _ _ _)
        rw [H00.out] at hc
        refine hc.mono ?_
        clear hc
        rintro e w4 ⟨rfl, b5⟩
        replace S1 := Lib.hid (S1.out.next b5)
        replace S2 := Lib.hid (S2.out.next b5)
        replace S3 := Lib.hid (S3.out.next b5)
        replace S4 := Lib.hid (S4.out.next b5)
        replace HT := Lib.hid (HT.out.next b5)
        replace B := Lib.hid (thn B.out b5)
        clear b5
        go_wp2_with fail
        refine (awake_any w4 HT.out).mono ?_
        rintro e w5 ⟨rfl, b5⟩
        replace B := Lib.hid (thn B.out b5)
        clear b5
        go_wp2
        go_ret
        exact ⟨rfl, B.out⟩
      · have h0' : ((n2 : Int) == 0) = false := by simpa using h0
        go_enter Tryd.func6, Tryd.ntmps6
        go_wp2_with fail
        refine HFw.out.mono ?_
        rintro e _ ⟨rfl, rfl⟩
        go_wp2_with fail
        have hc := coversF_any A1 n1 c1 es A2 n2 c2 bs w HT.out I1.out I2.out S1.out S2.out
        rw [HP.out] at hc
        refine hc.mono ?_
        clear hc
        rintro e w1 ⟨rfl, b5⟩
        replace S1 := Lib.hid (S1.out.next b5)
        replace S2 := Lib.hid (S2.out.next b5)
        replace S3 := Lib.hid (S3.out.next b5)
        replace S4 := Lib.hid (S4.out.next b5)
        replace HT := Lib.hid (HT.out.next b5)
        replace B := Lib.hid (thn B.out b5)
        clear b5
        go_wp2_with fail
        have hc := coversF_any A1 n1 c1 es A2 n2 c2 bs w1 HT.out I1.out I2.out S1.out S2.out
        rw [HP.out] at hc
        refine hc.mono ?_
        clear hc
        rintro e w2 ⟨rfl, b5⟩
        replace S1 := Lib.hid (S1.out.next b5)
        replace S2 := Lib.hid (S2.out.next b5)
        replace S3 := Lib.hid (S3.out.next b5)
        replace S4 := Lib.hid (S4.out.next b5)
        replace HT := Lib.hid (HT.out.next b5)
        replace B := Lib.hid (thn B.out b5)
        clear b5
        go_wp2_with fail
        have hc := coversF_any A1 n1 c1 es A1 n1 c1 es w2 HT.out I1.out I1.out S1.out S1.out
        rw [H0.out] at hc
        refine hc.mono ?_
        clear hc
        rintro e w3 ⟨rfl, b5⟩
        replace S1 := Lib.hid (S1.out.next b5)
        replace S2 := Lib.hid (S2.out.next b5)
        replace S3 := Lib.hid (S3.out.next b5)
        replace S4 := Lib.hid (S4.out.next b5)
        replace HT := Lib.hid (HT.out.next b5)
        replace B := Lib.hid (thn B.out b5)
        clear b5
        go_wp2_with fail
        have hc := coversF_any A1 n1 c1 es none 0 0 [] w3 HT.out I1.out IN.out S1.out (sp_zero _ _ _)
        rw [H00.out] at hc
        refine hc.mono ?_
        clear hc
        rintro e w4 ⟨rfl, b5⟩
        replace S1 := Lib.hid (S1.out.next b5)
        replace S2 := Lib.hid (S2.out.next b5)
        replace S3 := Lib.hid (S3.out.next b5)
        replace S4 := Lib.hid (S4.out.next b5)
        replace HT := Lib.hid (HT.out.next b5)
        replace B := Lib.hid (thn B.out b5)
        clear b5
        go_wp2_with fail
        have hc := meetF_any A1 n1 c1 es A2 n2 c2 bs w4 HT.out I1.out I2.out S1.out S2.out hn1
        rw [Hm.out] at hc
        refine hc.mono ?_
        clear hc
        rintro e w5 ⟨Am, cm, rfl, sm, b5⟩
        have Sm := Lib.hid sm
        clear sm
        replace S1 := Lib.hid (S1.out.next b5)
        replace S2 := Lib.hid (S2.out.next b5)
        replace S3 := Lib.hid (S3.out.next b5)
        replace S4 := Lib.hid (S4.out.next b5)
        replace HT := Lib.hid (HT.out.next b5)
        replace B := Lib.hid (thn B.out b5)
        clear b5
        go_wp2_with fail
        have hc := sameF_any Am m.length cm m A2 n2 c2 bs w5  Sm.out S2.out
        rw [HY.out] at hc
        refine hc.mono ?_
        clear hc
        rintro e w6 ⟨rfl, b5⟩
        replace S1 := Lib.hid (S1.out.next b5)
        replace S2 := Lib.hid (S2.out.next b5)
        replace S3 := Lib.hid (S3.out.next b5)
        replace S4 := Lib.hid (S4.out.next b5)
        replace Sm := Lib.hid (Sm.out.next b5)
        replace HT := Lib.hid (HT.out.next b5)
        replace B := Lib.hid (thn B.out b5)
        clear b5
        go_wp2_with fail
        refine (awake_any w6 HT.out).mono ?_
        rintro e w7 ⟨rfl, b5⟩
        replace B := Lib.hid (thn B.out b5)
        clear b5
        go_wp2
        go_ret
        exact ⟨rfl, B.out⟩
    · obtain ⟨q, HQ⟩ : ∃ q, Hid (matchF bs xs = q) := ⟨_, rfl⟩
      obtain ⟨r, HR⟩ : ∃ r, Hid (coversF bs cs = r) := ⟨_, rfl⟩
      cases q
      · cases r
        · by_cases h0 : n2 = 0
          · subst h0
            go_enter Tryd.func6, Tryd.ntmps6
            go_wp2_with fail
            refine HFw.out.mono ?_
            rintro e _ ⟨rfl, rfl⟩
            go_wp2_with fail
            have hc := coversF_any A1 n1 c1 es A2 0 c2 bs w HT.out I1.out I2.out S1.out S2.out
            rw [HP.out] at hc
            refine hc.mono ?_
            clear hc
            rintro e w1 ⟨rfl, b5⟩
            replace S1 := Lib.hid (S1.out.next b5)
            replace S2 := Lib.hid (S2.out.next b5)
            replace S3 := Lib.hid (S3.out.next b5)
            replace S4 := Lib.hid (S4.out.next b5)
            replace HT := Lib.hid (HT.out.next b5)
            replace B := Lib.hid (thn B.out b5)
            clear b5
            go_wp2_with fail
            have hc := matchF_any A2 0 c2 bs A3 n3 c3 xs w1 I2.out S2.out S3.out
            rw [HQ.out] at hc
            refine hc.mono ?_
            clear hc
            rintro e w2 ⟨rfl, b5⟩
            replace S1 := Lib.hid (S1.out.next b5)
            replace S2 := Lib.hid (S2.out.next b5)
            replace S3 := Lib.hid (S3.out.next b5)
            replace S4 := Lib.hid (S4.out.next b5)
            replace HT := Lib.hid (HT.out.next b5)
            replace B := Lib.hid (thn B.out b5)
            clear b5
            go_wp2_with fail
            have hc := coversF_any A1 n1 c1 es A2 0 c2 bs w2 HT.out I1.out I2.out S1.out S2.out
            rw [HP.out] at hc
            refine hc.mono ?_
            clear hc
            rintro e w3 ⟨rfl, b5⟩
            replace S1 := Lib.hid (S1.out.next b5)
            replace S2 := Lib.hid (S2.out.next b5)
            replace S3 := Lib.hid (S3.out.next b5)
            replace S4 := Lib.hid (S4.out.next b5)
            replace HT := Lib.hid (HT.out.next b5)
            replace B := Lib.hid (thn B.out b5)
            clear b5
            go_wp2_with fail
            have hc := coversF_any A2 0 c2 bs A4 n4 c4 cs w3 HT.out I2.out I4.out S2.out S4.out
            rw [HR.out] at hc
            refine hc.mono ?_
            clear hc
            rintro e w4 ⟨rfl, b5⟩
            replace S1 := Lib.hid (S1.out.next b5)
            replace S2 := Lib.hid (S2.out.next b5)
            replace S3 := Lib.hid (S3.out.next b5)
            replace S4 := Lib.hid (S4.out.next b5)
            replace HT := Lib.hid (HT.out.next b5)
            replace B := Lib.hid (thn B.out b5)
            clear b5
            go_wp2_with fail
            have hc := coversF_any A1 n1 c1 es A1 n1 c1 es w4 HT.out I1.out I1.out S1.out S1.out
            rw [H0.out] at hc
            refine hc.mono ?_
            clear hc
            rintro e w5 ⟨rfl, b5⟩
            replace S1 := Lib.hid (S1.out.next b5)
            replace S2 := Lib.hid (S2.out.next b5)
            replace S3 := Lib.hid (S3.out.next b5)
            replace S4 := Lib.hid (S4.out.next b5)
            replace HT := Lib.hid (HT.out.next b5)
            replace B := Lib.hid (thn B.out b5)
            clear b5
            go_wp2_with fail
            have hc := coversF_any A1 n1 c1 es none 0 0 [] w5 HT.out I1.out IN.out S1.out (sp_zero _ _ _)
            rw [H00.out] at hc
            refine hc.mono ?_
            clear hc
            rintro e w6 ⟨rfl, b5⟩
            replace S1 := Lib.hid (S1.out.next b5)
            replace S2 := Lib.hid (S2.out.next b5)
            replace S3 := Lib.hid (S3.out.next b5)
            replace S4 := Lib.hid (S4.out.next b5)
            replace HT := Lib.hid (HT.out.next b5)
            replace B := Lib.hid (thn B.out b5)
            clear b5
            go_wp2_with fail
            refine (awake_any w6 HT.out).mono ?_
            rintro e w7 ⟨rfl, b5⟩
            replace B := Lib.hid (thn B.out b5)
            clear b5
            go_wp2
            go_ret
            exact ⟨rfl, B.out⟩
          · have h0' : ((n2 : Int) == 0) = false := by simpa using h0
            cases y
            · go_enter Tryd.func6, Tryd.ntmps6
              go_wp2_with fail
              refine HFw.out.mono ?_
              rintro e _ ⟨rfl, rfl⟩
              go_wp2_with fail
              have hc := coversF_any A1 n1 c1 es A2 n2 c2 bs w HT.out I1.out I2.out S1.out S2.out
              rw [HP.out] at hc
              refine hc.mono ?_
              clear hc
              rintro e w1 ⟨rfl, b5⟩
              replace S1 := Lib.hid (S1.out.next b5)
              replace S2 := Lib.hid (S2.out.next b5)
              replace S3 := Lib.hid (S3.out.next b5)
              replace S4 := Lib.hid (S4.out.next b5)
              replace HT := Lib.hid (HT.out.next b5)
              replace B := Lib.hid (thn B.out b5)
              clear b5
              go_wp2_with fail
              have hc := matchF_any A2 n2 c2 bs A3 n3 c3 xs w1 I2.out S2.out S3.out
              rw [HQ.out] at hc
              refine hc.mono ?_
              clear hc
              rintro e w2 ⟨rfl, b5⟩
              replace S1 := Lib.hid (S1.out.next b5)
              replace S2 := Lib.hid (S2.out.next b5)
              replace S3 := Lib.hid (S3.out.next b5)
              replace S4 := Lib.hid (S4.out.next b5)
              replace HT := Lib.hid (HT.out.next b5)
              replace B := Lib.hid (thn B.out b5)
              clear b5
              go_wp2_with fail
              have hc := coversF_any A1 n1 c1 es A2 n2 c2 bs w2 HT.out I1.out I2.out S1.out S2.out
              rw [HP.out] at hc
              refine hc.mono ?_
              clear hc
              rintro e w3 ⟨rfl, b5⟩
              replace S1 := Lib.hid (S1.out.next b5)
              replace S2 := Lib.hid (S2.out.next b5)
              replace S3 := Lib.hid (S3.out.next b5)
              replace S4 := Lib.hid (S4.out.next b5)
              replace HT := Lib.hid (HT.out.next b5)
              replace B := Lib.hid (thn B.out b5)
              clear b5
              go_wp2_with fail
              have hc := coversF_any A2 n2 c2 bs A4 n4 c4 cs w3 HT.out I2.out I4.out S2.out S4.out
              rw [HR.out] at hc
              refine hc.mono ?_
              clear hc
              rintro e w4 ⟨rfl, b5⟩
              replace S1 := Lib.hid (S1.out.next b5)
              replace S2 := Lib.hid (S2.out.next b5)
              replace S3 := Lib.hid (S3.out.next b5)
              replace S4 := Lib.hid (S4.out.next b5)
              replace HT := Lib.hid (HT.out.next b5)
              replace B := Lib.hid (thn B.out b5)
              clear b5
              go_wp2_with fail
              have hc := coversF_any A1 n1 c1 es A1 n1 c1 es w4 HT.out I1.out I1.out S1.out S1.out
              rw [H0.out] at hc
              refine hc.mono ?_
              clear hc
              rintro e w5 ⟨rfl, b5⟩
              replace S1 := Lib.hid (S1.out.next b5)
              replace S2 := Lib.hid (S2.out.next b5)
              replace S3 := Lib.hid (S3.out.next b5)
              replace S4 := Lib.hid (S4.out.next b5)
              replace HT := Lib.hid (HT.out.next b5)
              replace B := Lib.hid (thn B.out b5)
              clear b5
              go_wp2_with fail
              have hc := coversF_any A1 n1 c1 es none 0 0 [] w5 HT.out I1.out IN.out S1.out (sp_zero _ _ _)
              rw [H00.out] at hc
              refine hc.mono ?_
              clear hc
              rintro e w6 ⟨rfl, b5⟩
              replace S1 := Lib.hid (S1.out.next b5)
              replace S2 := Lib.hid (S2.out.next b5)
              replace S3 := Lib.hid (S3.out.next b5)
              replace S4 := Lib.hid (S4.out.next b5)
              replace HT := Lib.hid (HT.out.next b5)
              replace B := Lib.hid (thn B.out b5)
              clear b5
              go_wp2_with fail
              have hc := meetF_any A1 n1 c1 es A2 n2 c2 bs w6 HT.out I1.out I2.out S1.out S2.out hn1
              rw [Hm.out] at hc
              refine hc.mono ?_
              clear hc
              rintro e w7 ⟨Am, cm, rfl, sm, b5⟩
              have Sm := Lib.hid sm
              clear sm
              replace S1 := Lib.hid (S1.out.next b5)
              replace S2 := Lib.hid (S2.out.next b5)
              replace S3 := Lib.hid (S3.out.next b5)
              replace S4 := Lib.hid (S4.out.next b5)
              replace HT := Lib.hid (HT.out.next b5)
              replace B := Lib.hid (thn B.out b5)
              clear b5
              go_wp2_with fail
              have hc := sameF_any Am m.length cm m A2 n2 c2 bs w7  Sm.out S2.out
              rw [HY.out] at hc
              refine hc.mono ?_
              clear hc
              rintro e w8 ⟨rfl, b5⟩
              replace S1 := Lib.hid (S1.out.next b5)
              replace S2 := Lib.hid (S2.out.next b5)
              replace S3 := Lib.hid (S3.out.next b5)
              replace S4 := Lib.hid (S4.out.next b5)
              replace Sm := Lib.hid (Sm.out.next b5)
              replace HT := Lib.hid (HT.out.next b5)
              replace B := Lib.hid (thn B.out b5)
              clear b5
              go_wp2_with fail
              refine (awake_any w8 HT.out).mono ?_
              rintro e w9 ⟨rfl, b5⟩
              replace B := Lib.hid (thn B.out b5)
              clear b5
              go_wp2
              go_ret
              exact ⟨rfl, B.out⟩
            · go_enter Tryd.func6, Tryd.ntmps6
              go_wp2_with fail
              refine HFw.out.mono ?_
              rintro e _ ⟨rfl, rfl⟩
              go_wp2_with fail
              have hc := coversF_any A1 n1 c1 es A2 n2 c2 bs w HT.out I1.out I2.out S1.out S2.out
              rw [HP.out] at hc
              refine hc.mono ?_
              clear hc
              rintro e w1 ⟨rfl, b5⟩
              replace S1 := Lib.hid (S1.out.next b5)
              replace S2 := Lib.hid (S2.out.next b5)
              replace S3 := Lib.hid (S3.out.next b5)
              replace S4 := Lib.hid (S4.out.next b5)
              replace HT := Lib.hid (HT.out.next b5)
              replace B := Lib.hid (thn B.out b5)
              clear b5
              go_wp2_with fail
              have hc := matchF_any A2 n2 c2 bs A3 n3 c3 xs w1 I2.out S2.out S3.out
              rw [HQ.out] at hc
              refine hc.mono ?_
              clear hc
              rintro e w2 ⟨rfl, b5⟩
              replace S1 := Lib.hid (S1.out.next b5)
              replace S2 := Lib.hid (S2.out.next b5)
              replace S3 := Lib.hid (S3.out.next b5)
              replace S4 := Lib.hid (S4.out.next b5)
              replace HT := Lib.hid (HT.out.next b5)
              replace B := Lib.hid (thn B.out b5)
              clear b5
              go_wp2_with fail
              have hc := coversF_any A1 n1 c1 es A2 n2 c2 bs w2 HT.out I1.out I2.out S1.out S2.out
              rw [HP.out] at hc
              refine hc.mono ?_
              clear hc
              rintro e w3 ⟨rfl, b5⟩
              replace S1 := Lib.hid (S1.out.next b5)
              replace S2 := Lib.hid (S2.out.next b5)
              replace S3 := Lib.hid (S3.out.next b5)
              replace S4 := Lib.hid (S4.out.next b5)
              replace HT := Lib.hid (HT.out.next b5)
              replace B := Lib.hid (thn B.out b5)
              clear b5
              go_wp2_with fail
              have hc := coversF_any A2 n2 c2 bs A4 n4 c4 cs w3 HT.out I2.out I4.out S2.out S4.out
              rw [HR.out] at hc
              refine hc.mono ?_
              clear hc
              rintro e w4 ⟨rfl, b5⟩
              replace S1 := Lib.hid (S1.out.next b5)
              replace S2 := Lib.hid (S2.out.next b5)
              replace S3 := Lib.hid (S3.out.next b5)
              replace S4 := Lib.hid (S4.out.next b5)
              replace HT := Lib.hid (HT.out.next b5)
              replace B := Lib.hid (thn B.out b5)
              clear b5
              go_wp2_with fail
              have hc := coversF_any A1 n1 c1 es A1 n1 c1 es w4 HT.out I1.out I1.out S1.out S1.out
              rw [H0.out] at hc
              refine hc.mono ?_
              clear hc
              rintro e w5 ⟨rfl, b5⟩
              replace S1 := Lib.hid (S1.out.next b5)
              replace S2 := Lib.hid (S2.out.next b5)
              replace S3 := Lib.hid (S3.out.next b5)
              replace S4 := Lib.hid (S4.out.next b5)
              replace HT := Lib.hid (HT.out.next b5)
              replace B := Lib.hid (thn B.out b5)
              clear b5
              go_wp2_with fail
              have hc := coversF_any A1 n1 c1 es none 0 0 [] w5 HT.out I1.out IN.out S1.out (sp_zero _ _ _)
              rw [H00.out] at hc
              refine hc.mono ?_
              clear hc
              rintro e w6 ⟨rfl, b5⟩
              replace S1 := Lib.hid (S1.out.next b5)
              replace S2 := Lib.hid (S2.out.next b5)
              replace S3 := Lib.hid (S3.out.next b5)
              replace S4 := Lib.hid (S4.out.next b5)
              replace HT := Lib.hid (HT.out.next b5)
              replace B := Lib.hid (thn B.out b5)
              clear b5
              go_wp2_with fail
              have hc := meetF_any A1 n1 c1 es A2 n2 c2 bs w6 HT.out I1.out I2.out S1.out S2.out hn1
              rw [Hm.out] at hc
              refine hc.mono ?_
              clear hc
              rintro e w7 ⟨Am, cm, rfl, sm, b5⟩
              have Sm := Lib.hid sm
              clear sm
              replace S1 := Lib.hid (S1.out.next b5)
              replace S2 := Lib.hid (S2.out.next b5)
              replace S3 := Lib.hid (S3.out.next b5)
              replace S4 := Lib.hid (S4.out.next b5)
              replace HT := Lib.hid (HT.out.next b5)
              replace B := Lib.hid (thn B.out b5)
              clear b5
              go_wp2_with fail
              have hc := sameF_any Am m.length cm m A2 n2 c2 bs w7  Sm.out S2.out
              rw [HY.out] at hc
              refine hc.mono ?_
              clear hc
              rintro e w8 ⟨rfl, b5⟩
              replace S1 := Lib.hid (S1.out.next b5)
              replace S2 := Lib.hid (S2.out.next b5)
              replace S3 := Lib.hid (S3.out.next b5)
              replace S4 := Lib.hid (S4.out.next b5)
              replace Sm := Lib.hid (Sm.out.next b5)
              replace HT := Lib.hid (HT.out.next b5)
              replace B := Lib.hid (thn B.out b5)
              clear b5
              go_wp2_with fail
              have hc := coversF_any A1 n1 c1 es A2 n2 c2 bs w8 HT.out I1.out I2.out S1.out S2.out
              rw [HP.out] at hc
              refine hc.mono ?_
              clear hc
              rintro e w9 ⟨rfl, b5⟩
              replace S1 := Lib.hid (S1.out.next b5)
              replace S2 := Lib.hid (S2.out.next b5)
              replace S3 := Lib.hid (S3.out.next b5)
              replace S4 := Lib.hid (S4.out.next b5)
              replace Sm := Lib.hid (Sm.out.next b5)
              replace HT := Lib.hid (HT.out.next b5)
              replace B := Lib.hid (thn B.out b5)
              clear b5
              go_wp2_with fail
              refine (awake_any w9 HT.out).mono ?_
              rintro e w10 ⟨rfl, b5⟩
              replace B := Lib.hid (thn B.out b5)
              clear b5
              go_wp2
              go_ret
              exact ⟨rfl, B.out⟩
        · by_cases h0 : n2 = 0
          · subst h0
            go_enter Tryd.func6, Tryd.ntmps6
            go_wp2_with fail
            refine HFw.out.mono ?_
            rintro e _ ⟨rfl, rfl⟩
            go_wp2_with fail
            have hc := coversF_any A1 n1 c1 es A2 0 c2 bs w HT.out I1.out I2.out S1.out S2.out
            rw [HP.out] at hc
            refine hc.mono ?_
            clear hc
            rintro e w1 ⟨rfl, b5⟩
            replace S1 := Lib.hid (S1.out.next b5)
            replace S2 := Lib.hid (S2.out.next b5)
            replace S3 := Lib.hid (S3.out.next b5)
            replace S4 := Lib.hid (S4.out.next b5)
            replace HT := Lib.hid (HT.out.next b5)
            replace B := Lib.hid (thn B.out b5)
            clear b5
            go_wp2_with fail
            have hc := matchF_any A2 0 c2 bs A3 n3 c3 xs w1 I2.out S2.out S3.out
            rw [HQ.out] at hc
            refine hc.mono ?_
            clear hc
            rintro e w2 ⟨rfl, b5⟩
            replace S1 := Lib.hid (S1.out.next b5)
            replace S2 := Lib.hid (S2.out.next b5)
            replace S3 := Lib.hid (S3.out.next b5)
            replace S4 := Lib.hid (S4.out.next b5)
            replace HT := Lib.hid (HT.out.next b5)
            replace B := Lib.hid (thn B.out b5)
            clear b5
            go_wp2_with fail
            have hc := coversF_any A1 n1 c1 es A2 0 c2 bs w2 HT.out I1.out I2.out S1.out S2.out
            rw [HP.out] at hc
            refine hc.mono ?_
            clear hc
            rintro e w3 ⟨rfl, b5⟩
            replace S1 := Lib.hid (S1.out.next b5)
            replace S2 := Lib.hid (S2.out.next b5)
            replace S3 := Lib.hid (S3.out.next b5)
            replace S4 := Lib.hid (S4.out.next b5)
            replace HT := Lib.hid (HT.out.next b5)
            replace B := Lib.hid (thn B.out b5)
            clear b5
            go_wp2_with fail
            have hc := coversF_any A2 0 c2 bs A4 n4 c4 cs w3 HT.out I2.out I4.out S2.out S4.out
            rw [HR.out] at hc
            refine hc.mono ?_
            clear hc
            rintro e w4 ⟨rfl, b5⟩
            replace S1 := Lib.hid (S1.out.next b5)
            replace S2 := Lib.hid (S2.out.next b5)
            replace S3 := Lib.hid (S3.out.next b5)
            replace S4 := Lib.hid (S4.out.next b5)
            replace HT := Lib.hid (HT.out.next b5)
            replace B := Lib.hid (thn B.out b5)
            clear b5
            go_wp2_with fail
            have hc := coversF_any A1 n1 c1 es A4 n4 c4 cs w4 HT.out I1.out I4.out S1.out S4.out
            rw [covers_trans HP.out HR.out] at hc
            refine hc.mono ?_
            clear hc
            rintro e w5 ⟨rfl, b5⟩
            replace S1 := Lib.hid (S1.out.next b5)
            replace S2 := Lib.hid (S2.out.next b5)
            replace S3 := Lib.hid (S3.out.next b5)
            replace S4 := Lib.hid (S4.out.next b5)
            replace HT := Lib.hid (HT.out.next b5)
            replace B := Lib.hid (thn B.out b5)
            clear b5
            go_wp2_with fail
            have hc := coversF_any A1 n1 c1 es A1 n1 c1 es w5 HT.out I1.out I1.out S1.out S1.out
            rw [H0.out] at hc
            refine hc.mono ?_
            clear hc
            rintro e w6 ⟨rfl, b5⟩
            replace S1 := Lib.hid (S1.out.next b5)
            replace S2 := Lib.hid (S2.out.next b5)
            replace S3 := Lib.hid (S3.out.next b5)
            replace S4 := Lib.hid (S4.out.next b5)
            replace HT := Lib.hid (HT.out.next b5)
            replace B := Lib.hid (thn B.out b5)
            clear b5
            go_wp2_with fail
            have hc := coversF_any A1 n1 c1 es none 0 0 [] w6 HT.out I1.out IN.out S1.out (sp_zero _ _ _)
            rw [H00.out] at hc
            refine hc.mono ?_
            clear hc
            rintro e w7 ⟨rfl, b5⟩
            replace S1 := Lib.hid (S1.out.next b5)
            replace S2 := Lib.hid (S2.out.next b5)
            replace S3 := Lib.hid (S3.out.next b5)
            replace S4 := Lib.hid (S4.out.next b5)
            replace HT := Lib.hid (HT.out.next b5)
            replace B := Lib.hid (thn B.out b5)
            clear b5
            go_wp2_with fail
            refine (awake_any w7 HT.out).mono ?_
            rintro e w8 ⟨rfl, b5⟩
            replace B := Lib.hid (thn B.out b5)
            clear b5
            go_wp2
            go_ret
            exact ⟨rfl, B.out⟩
          · have h0' : ((n2 : Int) == 0) = false := by simpa using h0
            cases y
            · go_enter Tryd.func6, Tryd.ntmps6
              go_wp2_with fail
              refine HFw.out.mono ?_
              rintro e _ ⟨rfl, rfl⟩
              go_wp2_with fail
              have hc := coversF_any A1 n1 c1 es A2 n2 c2 bs w HT.out I1.out I2.out S1.out S2.out
              rw [HP.out] at hc
              refine hc.mono ?_
              clear hc
              rintro e w1 ⟨rfl, b5⟩
              replace S1 := Lib.hid (S1.out.next b5)
              replace S2 := Lib.hid (S2.out.next b5)
              replace S3 := Lib.hid (S3.out.next b5)
              replace S4 := Lib.hid (S4.out.next b5)
              replace HT := Lib.hid (HT.out.next b5)
              replace B := Lib.hid (thn B.out b5)
              clear b5
              go_wp2_with fail
              have hc := matchF_any A2 n2 c2 bs A3 n3 c3 xs w1 I2.out S2.out S3.out
              rw [HQ.out] at hc
              refine hc.mono ?_
              clear hc
              rintro e w2 ⟨rfl, b5⟩
              replace S1 := Lib.hid (S1.out.next b5)
              replace S2 := Lib.hid (S2.out.next b5)
              replace S3 := Lib.hid (S3.out.next b5)
              replace S4 := Lib.hid (S4.out.next b5)
              replace HT := Lib.hid (HT.out.next b5)
              replace B := Lib.hid (thn B.out b5)
              clear b5
              go_wp2_with fail
              have hc := coversF_any A1 n1 c1 es A2 n2 c2 bs w2 HT.out I1.out I2.out S1.out S2.out
              rw [HP.out] at hc
              refine hc.mono ?_
              clear hc
              rintro e w3 ⟨rfl, b5⟩
              replace S1 := Lib.hid (S1.out.next b5)
              replace S2 := Lib.hid (S2.out.next b5)
              replace S3 := Lib.hid (S3.out.next b5)
              replace S4 := Lib.hid (S4.out.next b5)
              replace HT := Lib.hid (HT.out.next b5)
              replace B := Lib.hid (thn B.out b5)
              clear b5
              go_wp2_with fail
              have hc := coversF_any A2 n2 c2 bs A4 n4 c4 cs w3 HT.out I2.out I4.out S2.out S4.out
              rw [HR.out] at hc
              refine hc.mono ?_
              clear hc
              rintro e w4 ⟨rfl, b5⟩
              replace S1 := Lib.hid (S1.out.next b5)
              replace S2 := Lib.hid (S2.out.next b5)
              replace S3 := Lib.hid (S3.out.next b5)
              replace S4 := Lib.hid (S4.out.next b5)
              replace HT := Lib.hid (HT.out.next b5)
              replace B := Lib.hid (thn B.out b5)
              clear b5
              go_wp2_with fail
              have hc := coversF_any A1 n1 c1 es A4 n4 c4 cs w4 HT.out I1.out I4.out S1.out S4.out
              rw [covers_trans HP.out HR.out] at hc
              refine hc.mono ?_
              clear hc
              rintro e w5 ⟨rfl, b5⟩
              replace S1 := Lib.hid (S1.out.next b5)
              replace S2 := Lib.hid (S2.out.next b5)
              replace S3 := Lib.hid (S3.out.next b5)
              replace S4 := Lib.hid (S4.out.next b5)
              replace HT := Lib.hid (HT.out.next b5)
              replace B := Lib.hid (thn B.out b5)
              clear b5
              go_wp2_with fail
              have hc := coversF_any A1 n1 c1 es A1 n1 c1 es w5 HT.out I1.out I1.out S1.out S1.out
              rw [H0.out] at hc
              refine hc.mono ?_
              clear hc
              rintro e w6 ⟨rfl, b5⟩
              replace S1 := Lib.hid (S1.out.next b5)
              replace S2 := Lib.hid (S2.out.next b5)
              replace S3 := Lib.hid (S3.out.next b5)
              replace S4 := Lib.hid (S4.out.next b5)
              replace HT := Lib.hid (HT.out.next b5)
              replace B := Lib.hid (thn B.out b5)
              clear b5
              go_wp2_with fail
              have hc := coversF_any A1 n1 c1 es none 0 0 [] w6 HT.out I1.out IN.out S1.out (sp_zero _ _ _)
              rw [H00.out] at hc
              refine hc.mono ?_
              clear hc
              rintro e w7 ⟨rfl, b5⟩
              replace S1 := Lib.hid (S1.out.next b5)
              replace S2 := Lib.hid (S2.out.next b5)
              replace S3 := Lib.hid (S3.out.next b5)
              replace S4 := Lib.hid (S4.out.next b5)
              replace HT := Lib.hid (HT.out.next b5)
              replace B := Lib.hid (thn B.out b5)
              clear b5
              go_wp2_with fail
              have hc := meetF_any A1 n1 c1 es A2 n2 c2 bs w7 HT.out I1.out I2.out S1.out S2.out hn1
              rw [Hm.out] at hc
              refine hc.mono ?_
              clear hc
              rintro e w8 ⟨Am, cm, rfl, sm, b5⟩
              have Sm := Lib.hid sm
              clear sm
              replace S1 := Lib.hid (S1.out.next b5)
              replace S2 := Lib.hid (S2.out.next b5)
              replace S3 := Lib.hid (S3.out.next b5)
              replace S4 := Lib.hid (S4.out.next b5)
              replace HT := Lib.hid (HT.out.next b5)
              replace B := Lib.hid (thn B.out b5)
              clear b5
              go_wp2_with fail
              have hc := sameF_any Am m.length cm m A2 n2 c2 bs w8  Sm.out S2.out
              rw [HY.out] at hc
              refine hc.mono ?_
              clear hc
              rintro e w9 ⟨rfl, b5⟩
              replace S1 := Lib.hid (S1.out.next b5)
              replace S2 := Lib.hid (S2.out.next b5)
              replace S3 := Lib.hid (S3.out.next b5)
              replace S4 := Lib.hid (S4.out.next b5)
              replace Sm := Lib.hid (Sm.out.next b5)
              replace HT := Lib.hid (HT.out.next b5)
              replace B := Lib.hid (thn B.out b5)
              clear b5
              go_wp2_with fail
              refine (awake_any w9 HT.out).mono ?_
              rintro e w10 ⟨rfl, b5⟩
              replace B := Lib.hid (thn B.out b5)
              clear b5
              go_wp2
              go_ret
              exact ⟨rfl, B.out⟩
            · go_enter Tryd.func6, Tryd.ntmps6
              go_wp2_with fail
              refine HFw.out.mono ?_
              rintro e _ ⟨rfl, rfl⟩
              go_wp2_with fail
              have hc := coversF_any A1 n1 c1 es A2 n2 c2 bs w HT.out I1.out I2.out S1.out S2.out
              rw [HP.out] at hc
              refine hc.mono ?_
              clear hc
              rintro e w1 ⟨rfl, b5⟩
              replace S1 := Lib.hid (S1.out.next b5)
              replace S2 := Lib.hid (S2.out.next b5)
              replace S3 := Lib.hid (S3.out.next b5)
              replace S4 := Lib.hid (S4.out.next b5)
              replace HT := Lib.hid (HT.out.next b5)
              replace B := Lib.hid (thn B.out b5)
              clear b5
              go_wp2_with fail
              have hc := matchF_any A2 n2 c2 bs A3 n3 c3 xs w1 I2.out S2.out S3.out
              rw [HQ.out] at hc
              refine hc.mono ?_
              clear hc
              rintro e w2 ⟨rfl, b5⟩
              replace S1 := Lib.hid (S1.out.next b5)
              replace S2 := Lib.hid (S2.out.next b5)
              replace S3 := Lib.hid (S3.out.next b5)
              replace S4 := Lib.hid (S4.out.next b5)
              replace HT := Lib.hid (HT.out.next b5)
              replace B := Lib.hid (thn B.out b5)
              clear b5
              go_wp2_with fail
              have hc := coversF_any A1 n1 c1 es A2 n2 c2 bs w2 HT.out I1.out I2.out S1.out S2.out
              rw [HP.out] at hc
              refine hc.mono ?_
              clear hc
              rintro e w3 ⟨rfl, b5⟩
              replace S1 := Lib.hid (S1.out.next b5)
              replace S2 := Lib.hid (S2.out.next b5)
              replace S3 := Lib.hid (S3.out.next b5)
              replace S4 := Lib.hid (S4.out.next b5)
              replace HT := Lib.hid (HT.out.next b5)
              replace B := Lib.hid (thn B.out b5)
              clear b5
              go_wp2_with fail
              have hc := coversF_any A2 n2 c2 bs A4 n4 c4 cs w3 HT.out I2.out I4.out S2.out S4.out
              rw [HR.out] at hc
              refine hc.mono ?_
              clear hc
              rintro e w4 ⟨rfl, b5⟩
              replace S1 := Lib.hid (S1.out.next b5)
              replace S2 := Lib.hid (S2.out.next b5)
              replace S3 := Lib.hid (S3.out.next b5)
              replace S4 := Lib.hid (S4.out.next b5)
              replace HT := Lib.hid (HT.out.next b5)
              replace B := Lib.hid (thn B.out b5)
              clear b5
              go_wp2_with fail
              have hc := coversF_any A1 n1 c1 es A4 n4 c4 cs w4 HT.out I1.out I4.out S1.out S4.out
              rw [covers_trans HP.out HR.out] at hc
              refine hc.mono ?_
              clear hc
              rintro e w5 ⟨rfl, b5⟩
              replace S1 := Lib.hid (S1.out.next b5)
              replace S2 := Lib.hid (S2.out.next b5)
              replace S3 := Lib.hid (S3.out.next b5)
              replace S4 := Lib.hid (S4.out.next b5)
              replace HT := Lib.hid (HT.out.next b5)
              replace B := Lib.hid (thn B.out b5)
              clear b5
              go_wp2_with fail
              have hc := coversF_any A1 n1 c1 es A1 n1 c1 es w5 HT.out I1.out I1.out S1.out S1.out
              rw [H0.out] at hc
              refine hc.mono ?_
              clear hc
              rintro e w6 ⟨rfl, b5⟩
              replace S1 := Lib.hid (S1.out.next b5)
              replace S2 := Lib.hid (S2.out.next b5)
              replace S3 := Lib.hid (S3.out.next b5)
              replace S4 := Lib.hid (S4.out.next b5)
              replace HT := Lib.hid (HT.out.next b5)
              replace B := Lib.hid (thn B.out b5)
              clear b5
              go_wp2_with fail
              have hc := coversF_any A1 n1 c1 es none 0 0 [] w6 HT.out I1.out IN.out S1.out (sp_zero _ _ _)
              rw [H00.out] at hc
              refine hc.mono ?_
              clear hc
              rintro e w7 ⟨rfl, b5⟩
              replace S1 := Lib.hid (S1.out.next b5)
              replace S2 := Lib.hid (S2.out.next b5)
              replace S3 := Lib.hid (S3.out.next b5)
              replace S4 := Lib.hid (S4.out.next b5)
              replace HT := Lib.hid (HT.out.next b5)
              replace B := Lib.hid (thn B.out b5)
              clear b5
              go_wp2_with fail
              have hc := meetF_any A1 n1 c1 es A2 n2 c2 bs w7 HT.out I1.out I2.out S1.out S2.out hn1
              rw [Hm.out] at hc
              refine hc.mono ?_
              clear hc
              rintro e w8 ⟨Am, cm, rfl, sm, b5⟩
              have Sm := Lib.hid sm
              clear sm
              replace S1 := Lib.hid (S1.out.next b5)
              replace S2 := Lib.hid (S2.out.next b5)
              replace S3 := Lib.hid (S3.out.next b5)
              replace S4 := Lib.hid (S4.out.next b5)
              replace HT := Lib.hid (HT.out.next b5)
              replace B := Lib.hid (thn B.out b5)
              clear b5
              go_wp2_with fail
              have hc := sameF_any Am m.length cm m A2 n2 c2 bs w8  Sm.out S2.out
              rw [HY.out] at hc
              refine hc.mono ?_
              clear hc
              rintro e w9 ⟨rfl, b5⟩
              replace S1 := Lib.hid (S1.out.next b5)
              replace S2 := Lib.hid (S2.out.next b5)
              replace S3 := Lib.hid (S3.out.next b5)
              replace S4 := Lib.hid (S4.out.next b5)
              replace Sm := Lib.hid (Sm.out.next b5)
              replace HT := Lib.hid (HT.out.next b5)
              replace B := Lib.hid (thn B.out b5)
              clear b5
              go_wp2_with fail
              have hc := coversF_any A1 n1 c1 es A2 n2 c2 bs w9 HT.out I1.out I2.out S1.out S2.out
              rw [HP.out] at hc
              refine hc.mono ?_
              clear hc
              rintro e w10 ⟨rfl, b5⟩
              replace S1 := Lib.hid (S1.out.next b5)
              replace S2 := Lib.hid (S2.out.next b5)
              replace S3 := Lib.hid (S3.out.next b5)
              replace S4 := Lib.hid (S4.out.next b5)
              replace Sm := Lib.hid (Sm.out.next b5)
              replace HT := Lib.hid (HT.out.next b5)
              replace B := Lib.hid (thn B.out b5)
              clear b5
              go_wp2_with fail
              refine (awake_any w10 HT.out).mono ?_
              rintro e w11 ⟨rfl, b5⟩
              replace B := Lib.hid (thn B.out b5)
              clear b5
              go_wp2
              go_ret
              exact ⟨rfl, B.out⟩
      · cases r
        · by_cases h0 : n2 = 0
          · subst h0
            go_enter Tryd.func6, Tryd.ntmps6
            go_wp2_with fail
            refine HFw.out.mono ?_
            rintro e _ ⟨rfl, rfl⟩
            go_wp2_with fail
            have hc := coversF_any A1 n1 c1 es A2 0 c2 bs w HT.out I1.out I2.out S1.out S2.out
            rw [HP.out] at hc
            refine hc.mono ?_
            clear hc
            rintro e w1 ⟨rfl, b5⟩
            replace S1 := Lib.hid (S1.out.next b5)
            replace S2 := Lib.hid (S2.out.next b5)
            replace S3 := Lib.hid (S3.out.next b5)
            replace S4 := Lib.hid (S4.out.next b5)
            replace HT := Lib.hid (HT.out.next b5)
            replace B := Lib.hid (thn B.out b5)
            clear b5
            go_wp2_with fail
            have hc := matchF_any A2 0 c2 bs A3 n3 c3 xs w1 I2.out S2.out S3.out
            rw [HQ.out] at hc
            refine hc.mono ?_
            clear hc
            rintro e w2 ⟨rfl, b5⟩
            replace S1 := Lib.hid (S1.out.next b5)
            replace S2 := Lib.hid (S2.out.next b5)
            replace S3 := Lib.hid (S3.out.next b5)
            replace S4 := Lib.hid (S4.out.next b5)
            replace HT := Lib.hid (HT.out.next b5)
            replace B := Lib.hid (thn B.out b5)
            clear b5
            go_wp2_with fail
            have hc := matchF_any A1 n1 c1 es A3 n3 c3 xs w2 I1.out S1.out S3.out
            rw [covers_match HP.out HQ.out] at hc
            refine hc.mono ?_
            clear hc
            rintro e w3 ⟨rfl, b5⟩
            replace S1 := Lib.hid (S1.out.next b5)
            replace S2 := Lib.hid (S2.out.next b5)
            replace S3 := Lib.hid (S3.out.next b5)
            replace S4 := Lib.hid (S4.out.next b5)
            replace HT := Lib.hid (HT.out.next b5)
            replace B := Lib.hid (thn B.out b5)
            clear b5
            go_wp2_with fail
            have hc := coversF_any A1 n1 c1 es A2 0 c2 bs w3 HT.out I1.out I2.out S1.out S2.out
            rw [HP.out] at hc
            refine hc.mono ?_
            clear hc
            rintro e w4 ⟨rfl, b5⟩
            replace S1 := Lib.hid (S1.out.next b5)
            replace S2 := Lib.hid (S2.out.next b5)
            replace S3 := Lib.hid (S3.out.next b5)
            replace S4 := Lib.hid (S4.out.next b5)
            replace HT := Lib.hid (HT.out.next b5)
            replace B := Lib.hid (thn B.out b5)
            clear b5
            go_wp2_with fail
            have hc := coversF_any A2 0 c2 bs A4 n4 c4 cs w4 HT.out I2.out I4.out S2.out S4.out
            rw [HR.out] at hc
            refine hc.mono ?_
            clear hc
            rintro e w5 ⟨rfl, b5⟩
            replace S1 := Lib.hid (S1.out.next b5)
            replace S2 := Lib.hid (S2.out.next b5)
            replace S3 := Lib.hid (S3.out.next b5)
            replace S4 := Lib.hid (S4.out.next b5)
            replace HT := Lib.hid (HT.out.next b5)
            replace B := Lib.hid (thn B.out b5)
            clear b5
            go_wp2_with fail
            have hc := coversF_any A1 n1 c1 es A1 n1 c1 es w5 HT.out I1.out I1.out S1.out S1.out
            rw [H0.out] at hc
            refine hc.mono ?_
            clear hc
            rintro e w6 ⟨rfl, b5⟩
            replace S1 := Lib.hid (S1.out.next b5)
            replace S2 := Lib.hid (S2.out.next b5)
            replace S3 := Lib.hid (S3.out.next b5)
            replace S4 := Lib.hid (S4.out.next b5)
            replace HT := Lib.hid (HT.out.next b5)
            replace B := Lib.hid (thn B.out b5)
            clear b5
            go_wp2_with fail
            have hc := coversF_any A1 n1 c1 es none 0 0 [] w6 HT.out I1.out IN.out S1.out (sp_zero _ _ _)
            rw [H00.out] at hc
            refine hc.mono ?_
            clear hc
            rintro e w7 ⟨rfl, b5⟩
            replace S1 := Lib.hid (S1.out.next b5)
            replace S2 := Lib.hid (S2.out.next b5)
            replace S3 := Lib.hid (S3.out.next b5)
            replace S4 := Lib.hid (S4.out.next b5)
            replace HT := Lib.hid (HT.out.next b5)
            replace B := Lib.hid (thn B.out b5)
            clear b5
            go_wp2_with fail
            refine (awake_any w7 HT.out).mono ?_
            rintro e w8 ⟨rfl, b5⟩
            replace B := Lib.hid (thn B.out b5)
            clear b5
            go_wp2
            go_ret
            exact ⟨rfl, B.out⟩
          · have h0' : ((n2 : Int) == 0) = false := by simpa using h0
            cases y
            · go_enter Tryd.func6, Tryd.ntmps6
              go_wp2_with fail
              refine HFw.out.mono ?_
              rintro e _ ⟨rfl, rfl⟩
              go_wp2_with fail
              have hc := coversF_any A1 n1 c1 es A2 n2 c2 bs w HT.out I1.out I2.out S1.out S2.out
              rw [HP.out] at hc
              refine hc.mono ?_
              clear hc
              rintro e w1 ⟨rfl, b5⟩
              replace S1 := Lib.hid (S1.out.next b5)
              replace S2 := Lib.hid (S2.out.next b5)
              replace S3 := Lib.hid (S3.out.next b5)
              replace S4 := Lib.hid (S4.out.next b5)
              replace HT := Lib.hid (HT.out.next b5)
              replace B := Lib.hid (thn B.out b5)
              clear b5
              go_wp2_with fail
              have hc := matchF_any A2 n2 c2 bs A3 n3 c3 xs w1 I2.out S2.out S3.out
              rw [HQ.out] at hc
              refine hc.mono ?_
              clear hc
              rintro e w2 ⟨rfl, b5⟩
              replace S1 := Lib.hid (S1.out.next b5)
              replace S2 := Lib.hid (S2.out.next b5)
              replace S3 := Lib.hid (S3.out.next b5)
              replace S4 := Lib.hid (S4.out.next b5)
              replace HT := Lib.hid (HT.out.next b5)
              replace B := Lib.hid (thn B.out b5)
              clear b5
              go_wp2_with fail
              have hc := matchF_any A1 n1 c1 es A3 n3 c3 xs w2 I1.out S1.out S3.out
              rw [covers_match HP.out HQ.out] at hc
              refine hc.mono ?_
              clear hc
              rintro e w3 ⟨rfl, b5⟩
              replace S1 := Lib.hid (S1.out.next b5)
              replace S2 := Lib.hid (S2.out.next b5)
              replace S3 := Lib.hid (S3.out.next b5)
              replace S4 := Lib.hid (S4.out.next b5)
              replace HT := Lib.hid (HT.out.next b5)
              replace B := Lib.hid (thn B.out b5)
              clear b5
              go_wp2_with fail
              have hc := coversF_any A1 n1 c1 es A2 n2 c2 bs w3 HT.out I1.out I2.out S1.out S2.out
              rw [HP.out] at hc
              refine hc.mono ?_
              clear hc
              rintro e w4 ⟨rfl, b5⟩
              replace S1 := Lib.hid (S1.out.next b5)
              replace S2 := Lib.hid (S2.out.next b5)
              replace S3 := Lib.hid (S3.out.next b5)
              replace S4 := Lib.hid (S4.out.next b5)
              replace HT := Lib.hid (HT.out.next b5)
              replace B := Lib.hid (thn B.out b5)
              clear b5
              go_wp2_with fail
              have hc := coversF_any A2 n2 c2 bs A4 n4 c4 cs w4 HT.out I2.out I4.out S2.out S4.out
              rw [HR.out] at hc
              refine hc.mono ?_
              clear hc
              rintro e w5 ⟨rfl, b5⟩
              replace S1 := Lib.hid (S1.out.next b5)
              replace S2 := Lib.hid (S2.out.next b5)
              replace S3 := Lib.hid (S3.out.next b5)
              replace S4 := Lib.hid (S4.out.next b5)
              replace HT := Lib.hid (HT.out.next b5)
              replace B := Lib.hid (thn B.out b5)
              clear b5
              go_wp2_with fail
              have hc := coversF_any A1 n1 c1 es A1 n1 c1 es w5 HT.out I1.out I1.out S1.out S1.out
              rw [H0.out] at hc
              refine hc.mono ?_
              clear hc
              rintro e w6 ⟨rfl, b5⟩
              replace S1 := Lib.hid (S1.out.next b5)
              replace S2 := Lib.hid (S2.out.next b5)
              replace S3 := Lib.hid (S3.out.next b5)
              replace S4 := Lib.hid (S4.out.next b5)
              replace HT := Lib.hid (HT.out.next b5)
              replace B := Lib.hid (thn B.out b5)
              clear b5
              go_wp2_with fail
              have hc := coversF_any A1 n1 c1 es none 0 0 [] w6 HT.out I1.out IN.out S1.out (sp_zero _ _ _)
              rw [H00.out] at hc
              refine hc.mono ?_
              clear hc
              rintro e w7 ⟨rfl, b5⟩
              replace S1 := Lib.hid (S1.out.next b5)
              replace S2 := Lib.hid (S2.out.next b5)
              replace S3 := Lib.hid (S3.out.next b5)
              replace S4 := Lib.hid (S4.out.next b5)
              replace HT := Lib.hid (HT.out.next b5)
              replace B := Lib.hid (thn B.out b5)
              clear b5
              go_wp2_with fail
              have hc := meetF_any A1 n1 c1 es A2 n2 c2 bs w7 HT.out I1.out I2.out S1.out S2.out hn1
              rw [Hm.out] at hc
              refine hc.mono ?_
              clear hc
              rintro e w8 ⟨Am, cm, rfl, sm, b5⟩
              have Sm := Lib.hid sm
              clear sm
              replace S1 := Lib.hid (S1.out.next b5)
              replace S2 := Lib.hid (S2.out.next b5)
              replace S3 := Lib.hid (S3.out.next b5)
              replace S4 := Lib.hid (S4.out.next b5)
              replace HT := Lib.hid (HT.out.next b5)
              replace B := Lib.hid (thn B.out b5)
              clear b5
              go_wp2_with fail
              have hc := sameF_any Am m.length cm m A2 n2 c2 bs w8  Sm.out S2.out
              rw [HY.out] at hc
              refine hc.mono ?_
              clear hc
              rintro e w9 ⟨rfl, b5⟩
              replace S1 := Lib.hid (S1.out.next b5)
              replace S2 := Lib.hid (S2.out.next b5)
              replace S3 := Lib.hid (S3.out.next b5)
              replace S4 := Lib.hid (S4.out.next b5)
              replace Sm := Lib.hid (Sm.out.next b5)
              replace HT := Lib.hid (HT.out.next b5)
              replace B := Lib.hid (thn B.out b5)
              clear b5
              go_wp2_with fail
              refine (awake_any w9 HT.out).mono ?_
              rintro e w10 ⟨rfl, b5⟩
              replace B := Lib.hid (thn B.out b5)
              clear b5
              go_wp2
              go_ret
              exact ⟨rfl, B.out⟩
            · go_enter Tryd.func6, Tryd.ntmps6
              go_wp2_with fail
              refine HFw.out.mono ?_
              rintro e _ ⟨rfl, rfl⟩
              go_wp2_with fail
              have hc := coversF_any A1 n1 c1 es A2 n2 c2 bs w HT.out I1.out I2.out S1.out S2.out
              rw [HP.out] at hc
              refine hc.mono ?_
              clear hc
              rintro e w1 ⟨rfl, b5⟩
              replace S1 := Lib.hid (S1.out.next b5)
              replace S2 := Lib.hid (S2.out.next b5)
              replace S3 := Lib.hid (S3.out.next b5)
              replace S4 := Lib.hid (S4.out.next b5)
              replace HT := Lib.hid (HT.out.next b5)
              replace B := Lib.hid (thn B.out b5)
              clear b5
              go_wp2_with fail
              have hc := matchF_any A2 n2 c2 bs A3 n3 c3 xs w1 I2.out S2.out S3.out
              rw [HQ.out] at hc
              refine hc.mono ?_
              clear hc
              rintro e w2 ⟨rfl, b5⟩
              replace S1 := Lib.hid (S1.out.next b5)
              replace S2 := Lib.hid (S2.out.next b5)
              replace S3 := Lib.hid (S3.out.next b5)
              replace S4 := Lib.hid (S4.out.next b5)
              replace HT := Lib.hid (HT.out.next b5)
              replace B := Lib.hid (thn B.out b5)
              clear b5
              go_wp2_with fail
              have hc := matchF_any A1 n1 c1 es A3 n3 c3 xs w2 I1.out S1.out S3.out
              rw [covers_match HP.out HQ.out] at hc
              refine hc.mono ?_
              clear hc
              rintro e w3 ⟨rfl, b5⟩
              replace S1 := Lib.hid (S1.out.next b5)
              replace S2 := Lib.hid (S2.out.next b5)
              replace S3 := Lib.hid (S3.out.next b5)
              replace S4 := Lib.hid (S4.out.next b5)
              replace HT := Lib.hid (HT.out.next b5)
              replace B := Lib.hid (thn B.out b5)
              clear b5
              go_wp2_with fail
              have hc := coversF_any A1 n1 c1 es A2 n2 c2 bs w3 HT.out I1.out I2.out S1.out S2.out
              rw [HP.out] at hc
              refine hc.mono ?_
              clear hc
              rintro e w4 ⟨rfl, b5⟩
              replace S1 := Lib.hid (S1.out.next b5)
              replace S2 := Lib.hid (S2.out.next b5)
              replace S3 := Lib.hid (S3.out.next b5)
              replace S4 := Lib.hid (S4.out.next b5)
              replace HT := Lib.hid (HT.out.next b5)
              replace B := Lib.hid (thn B.out b5)
              clear b5
              go_wp2_with fail
              have hc := coversF_any A2 n2 c2 bs A4 n4 c4 cs w4 HT.out I2.out I4.out S2.out S4.out
              rw [HR.out] at hc
              refine hc.mono ?_
              clear hc
              rintro e w5 ⟨rfl, b5⟩
              replace S1 := Lib.hid (S1.out.next b5)
              replace S2 := Lib.hid (S2.out.next b5)
              replace S3 := Lib.hid (S3.out.next b5)
              replace S4 := Lib.hid (S4.out.next b5)
              replace HT := Lib.hid (HT.out.next b5)
              replace B := Lib.hid (thn B.out b5)
              clear b5
              go_wp2_with fail
              have hc := coversF_any A1 n1 c1 es A1 n1 c1 es w5 HT.out I1.out I1.out S1.out S1.out
              rw [H0.out] at hc
              refine hc.mono ?_
              clear hc
              rintro e w6 ⟨rfl, b5⟩
              replace S1 := Lib.hid (S1.out.next b5)
              replace S2 := Lib.hid (S2.out.next b5)
              replace S3 := Lib.hid (S3.out.next b5)
              replace S4 := Lib.hid (S4.out.next b5)
              replace HT := Lib.hid (HT.out.next b5)
              replace B := Lib.hid (thn B.out b5)
              clear b5
              go_wp2_with fail
              have hc := coversF_any A1 n1 c1 es none 0 0 [] w6 HT.out I1.out IN.out S1.out (sp_zero _ _ _)
              rw [H00.out] at hc
              refine hc.mono ?_
              clear hc
              rintro e w7 ⟨rfl, b5⟩
              replace S1 := Lib.hid (S1.out.next b5)
              replace S2 := Lib.hid (S2.out.next b5)
              replace S3 := Lib.hid (S3.out.next b5)
              replace S4 := Lib.hid (S4.out.next b5)
              replace HT := Lib.hid (HT.out.next b5)
              replace B := Lib.hid (thn B.out b5)
              clear b5
              go_wp2_with fail
              have hc := meetF_any A1 n1 c1 es A2 n2 c2 bs w7 HT.out I1.out I2.out S1.out S2.out hn1
              rw [Hm.out] at hc
              refine hc.mono ?_
              clear hc
              rintro e w8 ⟨Am, cm, rfl, sm, b5⟩
              have Sm := Lib.hid sm
              clear sm
              replace S1 := Lib.hid (S1.out.next b5)
              replace S2 := Lib.hid (S2.out.next b5)
              replace S3 := Lib.hid (S3.out.next b5)
              replace S4 := Lib.hid (S4.out.next b5)
              replace HT := Lib.hid (HT.out.next b5)
              replace B := Lib.hid (thn B.out b5)
              clear b5
              go_wp2_with fail
              have hc := sameF_any Am m.length cm m A2 n2 c2 bs w8  Sm.out S2.out
              rw [HY.out] at hc
              refine hc.mono ?_
              clear hc
              rintro e w9 ⟨rfl, b5⟩
              replace S1 := Lib.hid (S1.out.next b5)
              replace S2 := Lib.hid (S2.out.next b5)
              replace S3 := Lib.hid (S3.out.next b5)
              replace S4 := Lib.hid (S4.out.next b5)
              replace Sm := Lib.hid (Sm.out.next b5)
              replace HT := Lib.hid (HT.out.next b5)
              replace B := Lib.hid (thn B.out b5)
              clear b5
              go_wp2_with fail
              have hc := coversF_any A1 n1 c1 es A2 n2 c2 bs w9 HT.out I1.out I2.out S1.out S2.out
              rw [HP.out] at hc
              refine hc.mono ?_
              clear hc
              rintro e w10 ⟨rfl, b5⟩
              replace S1 := Lib.hid (S1.out.next b5)
              replace S2 := Lib.hid (S2.out.next b5)
              replace S3 := Lib.hid (S3.out.next b5)
              replace S4 := Lib.hid (S4.out.next b5)
              replace Sm := Lib.hid (Sm.out.next b5)
              replace HT := Lib.hid (HT.out.next b5)
              replace B := Lib.hid (thn B.out b5)
              clear b5
              go_wp2_with fail
              refine (awake_any w10 HT.out).mono ?_
              rintro e w11 ⟨rfl, b5⟩
              replace B := Lib.hid (thn B.out b5)
              clear b5
              go_wp2
              go_ret
              exact ⟨rfl, B.out⟩
        · by_cases h0 : n2 = 0
          · subst h0
            go_enter Tryd.func6, Tryd.ntmps6
            go_wp2_with fail
            refine HFw.out.mono ?_
            rintro e _ ⟨rfl, rfl⟩
            go_wp2_with fail
            have hc := coversF_any A1 n1 c1 es A2 0 c2 bs w HT.out I1.out I2.out S1.out S2.out
            rw [HP.out] at hc
            refine hc.mono ?_
            clear hc
            rintro e w1 ⟨rfl, b5⟩
            replace S1 := Lib.hid (S1.out.next b5)
            replace S2 := Lib.hid (S2.out.next b5)
            replace S3 := Lib.hid (S3.out.next b5)
            replace S4 := Lib.hid (S4.out.next b5)
            replace HT := Lib.hid (HT.out.next b5)
            replace B := Lib.hid (thn B.out b5)
            clear b5
            go_wp2_with fail
            have hc := matchF_any A2 0 c2 bs A3 n3 c3 xs w1 I2.out S2.out S3.out
            rw [HQ.out] at hc
            refine hc.mono ?_
            clear hc
            rintro e w2 ⟨rfl, b5⟩
            replace S1 := Lib.hid (S1.out.next b5)
            replace S2 := Lib.hid (S2.out.next b5)
            replace S3 := Lib.hid (S3.out.next b5)
            replace S4 := Lib.hid (S4.out.next b5)
            replace HT := Lib.hid (HT.out.next b5)
            replace B := Lib.hid (thn B.out b5)
            clear b5
            go_wp2_with fail
            have hc := matchF_any A1 n1 c1 es A3 n3 c3 xs w2 I1.out S1.out S3.out
            rw [covers_match HP.out HQ.out] at hc
            refine hc.mono ?_
            clear hc
            rintro e w3 ⟨rfl, b5⟩
            replace S1 := Lib.hid (S1.out.next b5)
            replace S2 := Lib.hid (S2.out.next b5)
            replace S3 := Lib.hid (S3.out.next b5)
            replace S4 := Lib.hid (S4.out.next b5)
            replace HT := Lib.hid (HT.out.next b5)
            replace B := Lib.hid (thn B.out b5)
            clear b5
            go_wp2_with fail
            have hc := coversF_any A1 n1 c1 es A2 0 c2 bs w3 HT.out I1.out I2.out S1.out S2.out
            rw [HP.out] at hc
            refine hc.mono ?_
            clear hc
            rintro e w4 ⟨rfl, b5⟩
            replace S1 := Lib.hid (S1.out.next b5)
            replace S2 := Lib.hid (S2.out.next b5)
            replace S3 := Lib.hid (S3.out.next b5)
            replace S4 := Lib.hid (S4.out.next b5)
            replace HT := Lib.hid (HT.out.next b5)
            replace B := Lib.hid (thn B.out b5)
            clear b5
            go_wp2_with fail
            have hc := coversF_any A2 0 c2 bs A4 n4 c4 cs w4 HT.out I2.out I4.out S2.out S4.out
            rw [HR.out] at hc
            refine hc.mono ?_
            clear hc
            rintro e w5 ⟨rfl, b5⟩
            replace S1 := Lib.hid (S1.out.next b5)
            replace S2 := Lib.hid (S2.out.next b5)
            replace S3 := Lib.hid (S3.out.next b5)
            replace S4 := Lib.hid (S4.out.next b5)
            replace HT := Lib.hid (HT.out.next b5)
            replace B := Lib.hid (thn B.out b5)
            clear b5
            go_wp2_with fail
            have hc := coversF_any A1 n1 c1 es A4 n4 c4 cs w5 HT.out I1.out I4.out S1.out S4.out
            rw [covers_trans HP.out HR.out] at hc
            refine hc.mono ?_
            clear hc
            rintro e w6 ⟨rfl, b5⟩
            replace S1 := Lib.hid (S1.out.next b5)
            replace S2 := Lib.hid (S2.out.next b5)
            replace S3 := Lib.hid (S3.out.next b5)
            replace S4 := Lib.hid (S4.out.next b5)
            replace HT := Lib.hid (HT.out.next b5)
            replace B := Lib.hid (thn B.out b5)
            clear b5
            go_wp2_with fail
            have hc := coversF_any A1 n1 c1 es A1 n1 c1 es w6 HT.out I1.out I1.out S1.out S1.out
            rw [H0.out] at hc
            refine hc.mono ?_
            clear hc
            rintro e w7 ⟨rfl, b5⟩
            replace S1 := Lib.hid (S1.out.next b5)
            replace S2 := Lib.hid (S2.out.next b5)
            replace S3 := Lib.hid (S3.out.next b5)
            replace S4 := Lib.hid (S4.out.next b5)
            replace HT := Lib.hid (HT.out.next b5)
            replace B := Lib.hid (thn B.out b5)
            clear b5
            go_wp2_with fail
            have hc := coversF_any A1 n1 c1 es none 0 0 [] w7 HT.out I1.out IN.out S1.out (sp_zero _ _ _)
            rw [H00.out] at hc
            refine hc.mono ?_
            clear hc
            rintro e w8 ⟨rfl, b5⟩
            replace S1 := Lib.hid (S1.out.next b5)
            replace S2 := Lib.hid (S2.out.next b5)
            replace S3 := Lib.hid (S3.out.next b5)
            replace S4 := Lib.hid (S4.out.next b5)
            replace HT := Lib.hid (HT.out.next b5)
            replace B := Lib.hid (thn B.out b5)
            clear b5
            go_wp2_with fail
            refine (awake_any w8 HT.out).mono ?_
            rintro e w9 ⟨rfl, b5⟩
            replace B := Lib.hid (thn B.out b5)
            clear b5
            go_wp2
            go_ret
            exact ⟨rfl, B.out⟩
          · have h0' : ((n2 : Int) == 0) = false := by simpa using h0
            cases y
            · go_enter Tryd.func6, Tryd.ntmps6
              go_wp2_with fail
              refine HFw.out.mono ?_
              rintro e _ ⟨rfl, rfl⟩
              go_wp2_with fail
              have hc := coversF_any A1 n1 c1 es A2 n2 c2 bs w HT.out I1.out I2.out S1.out S2.out
              rw [HP.out] at hc
              refine hc.mono ?_
              clear hc
              rintro e w1 ⟨rfl, b5⟩
              replace S1 := Lib.hid (S1.out.next b5)
              replace S2 := Lib.hid (S2.out.next b5)
              replace S3 := Lib.hid (S3.out.next b5)
              replace S4 := Lib.hid (S4.out.next b5)
              replace HT := Lib.hid (HT.out.next b5)
              replace B := Lib.hid (thn B.out b5)
              clear b5
              go_wp2_with fail
              have hc := matchF_any A2 n2 c2 bs A3 n3 c3 xs w1 I2.out S2.out S3.out
              rw [HQ.out] at hc
              refine hc.mono ?_
              clear hc
              rintro e w2 ⟨rfl, b5⟩
              replace S1 := Lib.hid (S1.out.next b5)
              replace S2 := Lib.hid (S2.out.next b5)
              replace S3 := Lib.hid (S3.out.next b5)
              replace S4 := Lib.hid (S4.out.next b5)
              replace HT := Lib.hid (HT.out.next b5)
              replace B := Lib.hid (thn B.out b5)
              clear b5
              go_wp2_with fail
              have hc := matchF_any A1 n1 c1 es A3 n3 c3 xs w2 I1.out S1.out S3.out
              rw [covers_match HP.out HQ.out] at hc
              refine hc.mono ?_
              clear hc
              rintro e w3 ⟨rfl, b5⟩
              replace S1 := Lib.hid (S1.out.next b5)
              replace S2 := Lib.hid (S2.out.next b5)
              replace S3 := Lib.hid (S3.out.next b5)
              replace S4 := Lib.hid (S4.out.next b5)
              replace HT := Lib.hid (HT.out.next b5)
              replace B := Lib.hid (thn B.out b5)
              clear b5
              go_wp2_with fail
              have hc := coversF_any A1 n1 c1 es A2 n2 c2 bs w3 HT.out I1.out I2.out S1.out S2.out
              rw [HP.out] at hc
              refine hc.mono ?_
              clear hc
              rintro e w4 ⟨rfl, b5⟩
              replace S1 := Lib.hid (S1.out.next b5)
              replace S2 := Lib.hid (S2.out.next b5)
              replace S3 := Lib.hid (S3.out.next b5)
              replace S4 := Lib.hid (S4.out.next b5)
              replace HT := Lib.hid (HT.out.next b5)
              replace B := Lib.hid (thn B.out b5)
              clear b5
              go_wp2_with fail
              have hc := coversF_any A2 n2 c2 bs A4 n4 c4 cs w4 HT.out I2.out I4.out S2.out S4.out
              rw [HR.out] at hc
              refine hc.mono ?_
              clear hc
              rintro e w5 ⟨rfl, b5⟩
              replace S1 := Lib.hid (S1.out.next b5)
              replace S2 := Lib.hid (S2.out.next b5)
              replace S3 := Lib.hid (S3.out.next b5)
              replace S4 := Lib.hid (S4.out.next b5)
              replace HT := Lib.hid (HT.out.next b5)
              replace B := Lib.hid (thn B.out b5)
              clear b5
              go_wp2_with fail
              have hc := coversF_any A1 n1 c1 es A4 n4 c4 cs w5 HT.out I1.out I4.out S1.out S4.out
              rw [covers_trans HP.out HR.out] at hc
              refine hc.mono ?_
              clear hc
              rintro e w6 ⟨rfl, b5⟩
              replace S1 := Lib.hid (S1.out.next b5)
              replace S2 := Lib.hid (S2.out.next b5)
              replace S3 := Lib.hid (S3.out.next b5)
              replace S4 := Lib.hid (S4.out.next b5)
              replace HT := Lib.hid (HT.out.next b5)
              replace B := Lib.hid (thn B.out b5)
              clear b5
              go_wp2_with fail
              have hc := coversF_any A1 n1 c1 es A1 n1 c1 es w6 HT.out I1.out I1.out S1.out S1.out
              rw [H0.out] at hc
              refine hc.mono ?_
              clear hc
              rintro e w7 ⟨rfl, b5⟩
              replace S1 := Lib.hid (S1.out.next b5)
              replace S2 := Lib.hid (S2.out.next b5)
              replace S3 := Lib.hid (S3.out.next b5)
              replace S4 := Lib.hid (S4.out.next b5)
              replace HT := Lib.hid (HT.out.next b5)
              replace B := Lib.hid (thn B.out b5)
              clear b5
              go_wp2_with fail
              have hc := coversF_any A1 n1 c1 es none 0 0 [] w7 HT.out I1.out IN.out S1.out (sp_zero _ _ _)
              rw [H00.out] at hc
              refine hc.mono ?_
              clear hc
              rintro e w8 ⟨rfl, b5⟩
              replace S1 := Lib.hid (S1.out.next b5)
              replace S2 := Lib.hid (S2.out.next b5)
              replace S3 := Lib.hid (S3.out.next b5)
              replace S4 := Lib.hid (S4.out.next b5)
              replace HT := Lib.hid (HT.out.next b5)
              replace B := Lib.hid (thn B.out b5)
              clear b5
              go_wp2_with fail
              have hc := meetF_any A1 n1 c1 es A2 n2 c2 bs w8 HT.out I1.out I2.out S1.out S2.out hn1
              rw [Hm.out] at hc
              refine hc.mono ?_
              clear hc
              rintro e w9 ⟨Am, cm, rfl, sm, b5⟩
              have Sm := Lib.hid sm
              clear sm
              replace S1 := Lib.hid (S1.out.next b5)
              replace S2 := Lib.hid (S2.out.next b5)
              replace S3 := Lib.hid (S3.out.next b5)
              replace S4 := Lib.hid (S4.out.next b5)
              replace HT := Lib.hid (HT.out.next b5)
              replace B := Lib.hid (thn B.out b5)
              clear b5
              go_wp2_with fail
              have hc := sameF_any Am m.length cm m A2 n2 c2 bs w9  Sm.out S2.out
              rw [HY.out] at hc
              refine hc.mono ?_
              clear hc
              rintro e w10 ⟨rfl, b5⟩
              replace S1 := Lib.hid (S1.out.next b5)
              replace S2 := Lib.hid (S2.out.next b5)
              replace S3 := Lib.hid (S3.out.next b5)
              replace S4 := Lib.hid (S4.out.next b5)
              replace Sm := Lib.hid (Sm.out.next b5)
              replace HT := Lib.hid (HT.out.next b5)
              replace B := Lib.hid (thn B.out b5)
              clear b5
              go_wp2_with fail
              refine (awake_any w10 HT.out).mono ?_
              rintro e w11 ⟨rfl, b5⟩
              replace B := Lib.hid (thn B.out b5)
              clear b5
              go_wp2
              go_ret
              exact ⟨rfl, B.out⟩
            · go_enter Tryd.func6, Tryd.ntmps6
              go_wp2_with fail
              refine HFw.out.mono ?_
              rintro e _ ⟨rfl, rfl⟩
              go_wp2_with fail
              have hc := coversF_any A1 n1 c1 es A2 n2 c2 bs w HT.out I1.out I2.out S1.out S2.out
              rw [HP.out] at hc
              refine hc.mono ?_
              clear hc
              rintro e w1 ⟨rfl, b5⟩
              replace S1 := Lib.hid (S1.out.next b5)
              replace S2 := Lib.hid (S2.out.next b5)
              replace S3 := Lib.hid (S3.out.next b5)
              replace S4 := Lib.hid (S4.out.next b5)
              replace HT := Lib.hid (HT.out.next b5)
              replace B := Lib.hid (thn B.out b5)
              clear b5
              go_wp2_with fail
              have hc := matchF_any A2 n2 c2 bs A3 n3 c3 xs w1 I2.out S2.out S3.out
              rw [HQ.out] at hc
              refine hc.mono ?_
              clear hc
              rintro e w2 ⟨rfl, b5⟩
              replace S1 := Lib.hid (S1.out.next b5)
              replace S2 := Lib.hid (S2.out.next b5)
              replace S3 := Lib.hid (S3.out.next b5)
              replace S4 := Lib.hid (S4.out.next b5)
              replace HT := Lib.hid (HT.out.next b5)
              replace B := Lib.hid (thn B.out b5)
              clear b5
              go_wp2_with fail
              have hc := matchF_any A1 n1 c1 es A3 n3 c3 xs w2 I1.out S1.out S3.out
              rw [covers_match HP.out HQ.out] at hc
              refine hc.mono ?_
              clear hc
              rintro e w3 ⟨rfl, b5⟩
              replace S1 := Lib.hid (S1.out.next b5)
              replace S2 := Lib.hid (S2.out.next b5)
              replace S3 := Lib.hid (S3.out.next b5)
              replace S4 := Lib.hid (S4.out.next b5)
              replace HT := Lib.hid (HT.out.next b5)
              replace B := Lib.hid (thn B.out b5)
              clear b5
              go_wp2_with fail
              have hc := coversF_any A1 n1 c1 es A2 n2 c2 bs w3 HT.out I1.out I2.out S1.out S2.out
              rw [HP.out] at hc
              refine hc.mono ?_
              clear hc
              rintro e w4 ⟨rfl, b5⟩
              replace S1 := Lib.hid (S1.out.next b5)
              replace S2 := Lib.hid (S2.out.next b5)
              replace S3 := Lib.hid (S3.out.next b5)
              replace S4 := Lib.hid (S4.out.next b5)
              replace HT := Lib.hid (HT.out.next b5)
              replace B := Lib.hid (thn B.out b5)
              clear b5
              go_wp2_with fail
              have hc := coversF_any A2 n2 c2 bs A4 n4 c4 cs w4 HT.out I2.out I4.out S2.out S4.out
              rw [HR.out] at hc
              refine hc.mono ?_
              clear hc
              rintro e w5 ⟨rfl, b5⟩
              replace S1 := Lib.hid (S1.out.next b5)
              replace S2 := Lib.hid (S2.out.next b5)
              replace S3 := Lib.hid (S3.out.next b5)
              replace S4 := Lib.hid (S4.out.next b5)
              replace HT := Lib.hid (HT.out.next b5)
              replace B := Lib.hid (thn B.out b5)
              clear b5
              go_wp2_with fail
              have hc := coversF_any A1 n1 c1 es A4 n4 c4 cs w5 HT.out I1.out I4.out S1.out S4.out
              rw [covers_trans HP.out HR.out] at hc
              refine hc.mono ?_
              clear hc
              rintro e w6 ⟨rfl, b5⟩
              replace S1 := Lib.hid (S1.out.next b5)
              replace S2 := Lib.hid (S2.out.next b5)
              replace S3 := Lib.hid (S3.out.next b5)
              replace S4 := Lib.hid (S4.out.next b5)
              replace HT := Lib.hid (HT.out.next b5)
              replace B := Lib.hid (thn B.out b5)
              clear b5
              go_wp2_with fail
              have hc := coversF_any A1 n1 c1 es A1 n1 c1 es w6 HT.out I1.out I1.out S1.out S1.out
              rw [H0.out] at hc
              refine hc.mono ?_
              clear hc
              rintro e w7 ⟨rfl, b5⟩
              replace S1 := Lib.hid (S1.out.next b5)
              replace S2 := Lib.hid (S2.out.next b5)
              replace S3 := Lib.hid (S3.out.next b5)
              replace S4 := Lib.hid (S4.out.next b5)
              replace HT := Lib.hid (HT.out.next b5)
              replace B := Lib.hid (thn B.out b5)
              clear b5
              go_wp2_with fail
              have hc := coversF_any A1 n1 c1 es none 0 0 [] w7 HT.out I1.out IN.out S1.out (sp_zero _ _ _)
              rw [H00.out] at hc
              refine hc.mono ?_
              clear hc
              rintro e w8 ⟨rfl, b5⟩
              replace S1 := Lib.hid (S1.out.next b5)
              replace S2 := Lib.hid (S2.out.next b5)
              replace S3 := Lib.hid (S3.out.next b5)
              replace S4 := Lib.hid (S4.out.next b5)
              replace HT := Lib.hid (HT.out.next b5)
              replace B := Lib.hid (thn B.out b5)
              clear b5
              go_wp2_with fail
              have hc := meetF_any A1 n1 c1 es A2 n2 c2 bs w8 HT.out I1.out I2.out S1.out S2.out hn1
              rw [Hm.out] at hc
              refine hc.mono ?_
              clear hc
              rintro e w9 ⟨Am, cm, rfl, sm, b5⟩
              have Sm := Lib.hid sm
              clear sm
              replace S1 := Lib.hid (S1.out.next b5)
              replace S2 := Lib.hid (S2.out.next b5)
              replace S3 := Lib.hid (S3.out.next b5)
              replace S4 := Lib.hid (S4.out.next b5)
              replace HT := Lib.hid (HT.out.next b5)
              replace B := Lib.hid (thn B.out b5)
              clear b5
              go_wp2_with fail
              have hc := sameF_any Am m.length cm m A2 n2 c2 bs w9  Sm.out S2.out
              rw [HY.out] at hc
              refine hc.mono ?_
              clear hc
              rintro e w10 ⟨rfl, b5⟩
              replace S1 := Lib.hid (S1.out.next b5)
              replace S2 := Lib.hid (S2.out.next b5)
              replace S3 := Lib.hid (S3.out.next b5)
              replace S4 := Lib.hid (S4.out.next b5)
              replace Sm := Lib.hid (Sm.out.next b5)
              replace HT := Lib.hid (HT.out.next b5)
              replace B := Lib.hid (thn B.out b5)
              clear b5
              go_wp2_with fail
              have hc := coversF_any A1 n1 c1 es A2 n2 c2 bs w10 HT.out I1.out I2.out S1.out S2.out
              rw [HP.out] at hc
              refine hc.mono ?_
              clear hc
              rintro e w11 ⟨rfl, b5⟩
              replace S1 := Lib.hid (S1.out.next b5)
              replace S2 := Lib.hid (S2.out.next b5)
              replace S3 := Lib.hid (S3.out.next b5)
              replace S4 := Lib.hid (S4.out.next b5)
              replace Sm := Lib.hid (Sm.out.next b5)
              replace HT := Lib.hid (HT.out.next b5)
              replace B := Lib.hid (thn B.out b5)
              clear b5
              go_wp2_with fail
              refine (awake_any w11 HT.out).mono ?_
              rintro e w12 ⟨rfl, b5⟩
              replace B := Lib.hid (thn B.out b5)
              clear b5
              go_wp2
              go_ret
              exact ⟨rfl, B.out⟩
end Go.Proofs.YtdgobdfggdmnpaaDoor
