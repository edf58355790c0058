import Derived.Test.YthakiojcjkkonaaT5
namespace Go.Proofs.Ythakiojcjkkonaa
open Go.RowKit
set_option linter.unusedVariables false

theorem refTake_any (A : Option Addr) (n c : Nat) (l : List UInt8) (m : Int) (w : World) (h : Sl w w.heap.size A n c l) (hn : n ≤ 1000000) :
    Calls Try.prog 10 #[.slice A n c, .int .i64 m] w (Taken l m w) := by
  have hl := sl_len h
  have HL : Hid (n = l.length) := hl
  by_cases hm : 1 ≤ m ∧ m ≤ 8 ∧ m ≤ (n : Int)
  · have HM : Hid (1 ≤ m ∧ m ≤ 8 ∧ m ≤ (l.length : Int)) := by unfold Hid; omega
    clear hl
    obtain ⟨m, rfl⟩ := Int.eq_ofNat_of_zero_le (show 0 ≤ m by omega)
    have e1 : (1 : Int) ≤ m := hm.1
    have e2 : (m : Int) ≤ 8 := hm.2.1
    have e3 : (m : Int) ≤ n := hm.2.2
    clear hm
    have H := h.at_
    go_enter Try.func10, Try.ntmps10
    go_wp2
    go_loop [7, 8] (fun x i => ∃ j : Nat, j ≤ m ∧ i = .int .i64 j ∧ x = .int .u64 (num (l.take j) : Nat)) (fun _ i => m - (intOf i).toNat)
    case atStart => exact ⟨0, Nat.zero_le _, rfl, rfl⟩
    case round =>
      obtain ⟨j, hj, rfl, rfl⟩ := hrel
      by_cases hlt : j < m
      · obtain ⟨b, off, rfl, hb, hc⟩ := H (by omega)
        have hjl : j < l.length := by have := HL.out; omega
        have hjn : j < n := by omega
        have hcell : w.cell? ⟨b, off + j, none⟩ = some (.int .u8 ((l[j]).toNat : Nat)) := hc j _ (by simp [List.getElem?_eq_getElem hjl, Bv])
        have HS : Hid (num (l.take (j + 1)) = num (l.take j) * 256 + (l[j]).toNat) := num_take_succ l j hjl
        have hn7 : num (l.take j) < 72057594037927936 := num_take_lt l j 7 (by omega)
        have hu := (l[j]).toNat_lt
        clear hc H
        generalize num (l.take j) = x at *
        generalize l[j] = u at *
        clear hjl
        go_wp2
        go_round
        case rel => exact ⟨j + 1, by omega, by go_num, by rw [HS.out]; go_num⟩
        case measure => simp [intOf]; omega
      · obtain rfl : j = m := by omega
        go_wp2_with (go_at_call 25; go_must (refine (rest_made _ _ _ _ l _ _ h (by omega) hn).mono ?_); rintro e w1 ⟨A1, c1, rfl, hown1, hb1⟩)
        go_ret3
        exact taken_yes l j w _ A1 _ c1 (by simpa only [Int.toNat_natCast, List.length_drop] using hown1) hb1 HM.out
  · have HM : Hid (¬ (1 ≤ m ∧ m ≤ 8 ∧ m ≤ (l.length : Int))) := by unfold Hid; omega
    have e : m < 1 ∨ 8 < m ∨ (n : Int) < m := by omega
    clear hl hm
    by_cases e1 : m < 1
    · go_enter Try.func10, Try.ntmps10
      go_wp2
      go_ret3
      exact taken_no l m w _ (Below.refl _ _) HM.out
    · by_cases e2 : 8 < m
      · go_enter Try.func10, Try.ntmps10
        go_wp2
        go_ret3
        exact taken_no l m w _ (Below.refl _ _) HM.out
      · have e3 : (n : Int) < m := by omega
        go_enter Try.func10, Try.ntmps10
        go_wp2
        go_ret3
        exact taken_no l m w _ (Below.refl _ _) HM.out

theorem refPutText_made (A : Option Addr) (n c : Nat) (l : List UInt8) (A' : Option Addr) (n' c' : Nat) (t : List UInt8) (w : World) (h : Sl w w.heap.size A n c l) (h' : Sl w w.heap.size A' n' c' t) (hn : n ≤ 1000000) (hn' : n' ≤ 1000000) :
    Calls Try.prog 17 #[.slice A n c, .slice A' n' c'] w (Made (putTextF l t) w) := by
  have HT : Hid (n' = t.length) := sl_len h'
  by_cases ht : (n' : Int) ≤ 65535
  · have HF : Hid (l ++ be n' 2 ++ t = putTextF l t) := by unfold Hid; rw [putTextF, if_pos (by rw [← HT.out]; omega), ← HT.out]
    have HL : Hid (n = l.length) := sl_len h
    go_enter Try.func17, Try.ntmps17
    go_wp2_with (first
      | (go_at_call 15; go_must (refine (refPut_any _ _ _ _ l _ _ _ h (Nat.le_refl _) (by omega) (by omega) (by omega)).mono ?_); rintro e w3 ⟨A3, c3, rfl, hown3, hb3⟩)
      | (at_builtin; go_must (refine wpList_app rfl _ _ 22 rfl Try.underlying22 info5 rfl rfl hown3 rfl (h'.next hb3) (Bv_one _) (by simp; omega) (by decide) hb3.size ?_); intro A4 c4 w4 hown4 hg4))
    go_ret
    rw [← List.map_append] at hown4
    exact made_of hown4 (hb3.grown hg4 hb3.size hown3.lt) HF.out
  · have HF : Hid (l = putTextF l t) := by unfold Hid; rw [putTextF, if_neg (by rw [← HT.out]; omega)]
    go_enter Try.func17, Try.ntmps17
    go_wp2_with (go_at_call 25; go_must (refine (rest_made _ _ _ _ l _ _ h (by omega) hn).mono ?_); rintro e w1 ⟨A1, c1, rfl, hown1, hb1⟩)
    go_ret
    exact made_of hown1 hb1 (by simpa using HF.out)

theorem two_bytes (l : List UInt8) (h : 2 ≤ l.length) : num (l.take 2) = (l[0]'(by omega)).toNat * 256 + (l[1]'(by omega)).toNat := by
  match l, h with
  | a :: b :: t, _ => simp [num]

theorem refText_any (A : Option Addr) (n c : Nat) (l : List UInt8) (m : Int) (w : World) (h : Sl w w.heap.size A n c l) (hn : n ≤ 1000000) :
    Calls Try.prog 12 #[.slice A n c, .int .i64 m] w (Texted l m w) := by
  have hl := sl_len h
  have HL : Hid (n = l.length) := hl
  by_cases h2 : (n : Int) < 2
  · have HM : Hid (¬ (2 ≤ l.length ∧ (num (l.take 2) : Int) ≤ m ∧ num (l.take 2) ≤ l.length - 2)) := by unfold Hid; omega
    clear hl
    go_enter Try.func12, Try.ntmps12
    go_wp2
    go_ret3
    exact texted_no l m w _ (Below.refl _ _) HM.out
  · obtain ⟨b, off, rfl, hb, hc⟩ := h.at_ (by omega)
    have HN : Hid (num (l.take 2) = (l[0]'(by omega)).toNat * 256 + (l[1]'(by omega)).toNat) := two_bytes l (by omega)
    have c0 : w.cell? ⟨b, off, none⟩ = some (.int .u8 ((l[0]'(by omega)).toNat : Nat)) := by have := hc 0 (Bv (l[0]'(by omega))) (by simp [List.getElem?_eq_getElem (show 0 < l.length by omega)]); simpa [Bv] using this
    have c1 : w.cell? ⟨b, off + 1, none⟩ = some (.int .u8 ((l[1]'(by omega)).toNat : Nat)) := hc 1 (Bv (l[1]'(by omega))) (by simp [List.getElem?_eq_getElem (show 1 < l.length by omega)])
    clear hc
    have u0 := (l[0]'(by omega)).toNat_lt
    have u1 := (l[1]'(by omega)).toNat_lt
    have HI : ∀ N : Nat, N = (l[0]'(by omega)).toNat * 256 + (l[1]'(by omega)).toNat → num (l.take 2) = N := fun N e => by rw [e]; exact HN.out
    generalize (l[0]'(by omega)).toNat = x at *
    generalize (l[1]'(by omega)).toNat = y at *
    have HE : Hid (num (l.take 2) = x * 256 + y) := HI _ rfl
    clear HI HN
    have f0 : (0 : Int) < n := by omega
    have f1 : (1 : Int) < n := by omega
    have g1 : 2 ≤ n := by omega
    clear hl
    by_cases hm : ((x * 256 + y : Nat) : Int) ≤ m ∧ ((x * 256 + y : Nat) : Int) ≤ (n : Int) - 2
    · have HM : Hid (2 ≤ l.length ∧ (num (l.take 2) : Int) ≤ m ∧ num (l.take 2) ≤ l.length - 2) := by
        have := HL.out
        unfold Hid
        rw [HE.out]
        omega
      obtain ⟨e1, e2⟩ := hm
      have hu := h.upto (hi := 2 + (x * 256 + y)) (by omega)
      rw [← List.map_take] at hu
      have HR : Hid ((l.take (2 + (x * 256 + y))).drop 2 = (l.drop 2).take (num (l.take 2))) := by unfold Hid; rw [HE.out, List.drop_take]; congr 1; omega
      have HR' : Hid (l.drop (2 + (x * 256 + y)) = (l.drop 2).drop (num (l.take 2))) := by unfold Hid; rw [HE.out, List.drop_drop]
      have hcap := h.cap
      go_enter Try.func12, Try.ntmps12
      go_wp2
      go_quiet (fail)
      have hb0 := dN (Below.refl w.heap.size w) nq
      generalize w.drewN nq = w0 at *
      have q1 := hu.next hb0
      have q2 := h.next hb0
      have e5 : ((x : Int) * 256 + y) = ((x * 256 + y : Nat) : Int) := by omega
      have e6 : (2 + ((x : Int) * 256 + y)) = ((2 + (x * 256 + y) : Nat) : Int) := by omega
      rw [e5]
      generalize x * 256 + y = N at *
      clear e5 e6
      go_wp2_with fail
      refine (rest_made _ _ _ _ _ _ _ q1 (by omega) (by omega)).mono ?_
      rintro e w1 ⟨A1, c1, rfl, hown1, hb1⟩
      go_wp2_with fail
      refine (rest_made _ _ _ _ l _ _ (q2.next hb1) (by omega) (by omega)).mono ?_
      rintro e w2 ⟨A2, c2, rfl, hown2, hb2⟩
      go_wp2
      go_ret3
      simp only [List.length_drop] at hown2
      have hown1' : Own w1 w0.heap.size 5 A1 (min (2 + N) l.length - 2) c1 (List.map Bv (List.drop (Int.toNat 2) (List.take (2 + N) l))) := by simpa using hown1
      have z1 := hb0.size
      have z2 := hb1.size
      refine texted_yes l m w _ A1 A2 _ c1 _ c2 HM.out ?_ ?_ (far_of hown1' hown2 (Nat.le_refl _)) (thn (thn hb0 hb1) hb2)
      · rw [← HR.out]
        simpa using (hown1'.below hb2).mono z1
      · rw [← HR'.out]
        simpa only [show ((2 : Int) + (N : Int)).toNat = 2 + N from by omega] using hown2.mono (show w.heap.size ≤ w1.heap.size by omega)
    · have HM : Hid (¬ (2 ≤ l.length ∧ (num (l.take 2) : Int) ≤ m ∧ num (l.take 2) ≤ l.length - 2)) := by
        have := HL.out
        unfold Hid
        rw [HE.out]
        omega
      by_cases e1 : ((x * 256 + y : Nat) : Int) ≤ m
      · have e2 : (n : Int) - 2 < ((x * 256 + y : Nat) : Int) := by omega
        clear hm
        go_enter Try.func12, Try.ntmps12
        go_wp2
        go_quiet (fail)
        have hb0 := dN (Below.refl w.heap.size w) nq
        generalize w.drewN nq = w0 at *
        have e5 : ((x : Int) * 256 + y) = ((x * 256 + y : Nat) : Int) := by omega
        rw [e5]
        generalize x * 256 + y = N at *
        clear e5
        go_wp2
        go_ret3
        exact texted_no l m w _ hb0 HM.out
      · clear hm
        have e2 : m < ((x * 256 + y : Nat) : Int) := by omega
        go_enter Try.func12, Try.ntmps12
        go_wp2
        go_quiet (fail)
        have hb0 := dN (Below.refl w.heap.size w) nq
        generalize w.drewN nq = w0 at *
        have e5 : ((x : Int) * 256 + y) = ((x * 256 + y : Nat) : Int) := by omega
        rw [e5]
        generalize x * 256 + y = N at *
        clear e5
        go_wp2
        go_ret3
        exact texted_no l m w _ hb0 HM.out
end Go.Proofs.Ythakiojcjkkonaa
