/- Layer 3: the walk of SchemaBring. -/
import Derived.Test.YteofjhoemcjlnaaSch12
namespace Go.Proofs.Yteofjhoemcjlnaa
open Go.RowKit
set_option linter.unusedVariables false
theorem bro_in (x : Int) (p : Int × Int) (h : p.1 ≤ p.2) : p.1 ≤ bro x p ∧ bro x p ≤ p.2 := by unfold bro; omega
theorem bro_same (x : Int) (p : Int × Int) (h : p.1 ≤ x ∧ x ≤ p.2) : bro x p = x := by unfold bro; omega
theorem getD_of {xs : List Int} {i : Nat} {x : Int} (h : xs[i]? = some x) : xs.getD i 0 = x := by simp [List.getD, h]
theorem bring_fits (ps : List (Int × Int)) (xs : List Int) (hr : ∀ p ∈ ps, p.1 ≤ p.2) : fitsB ps (bringL ps xs) = true :=
  fitsB_all (bringL_length ps xs) fun i hi p x hp hx => by
    rw [bringL_get ps xs i p hp] at hx
    injection hx with hx
    subst hx
    exact bro_in _ _ (hr p (List.mem_of_getElem? hp))
theorem bring_same {ps : List (Int × Int)} {xs : List Int} (h : fitsB ps xs = true) : bringL ps xs = xs := by
  obtain ⟨hl, hf⟩ := fitsB_get h
  apply List.ext_getElem?
  intro i
  rcases Nat.lt_or_ge i ps.length with h1 | h1
  · have hp : ps[i]? = some ps[i] := List.getElem?_eq_getElem h1
    have hx : xs[i]? = some xs[i] := List.getElem?_eq_getElem (by omega)
    rw [bringL_get ps xs i _ hp, hx, getD_of hx, bro_same _ _ (hf i h1 _ _ hp hx)]
  · rw [List.getElem?_eq_none (by rw [bringL_length]; exact h1), List.getElem?_eq_none (by omega)]
theorem ofL_rightB (ps : List (Int × Int)) : rightB (ofL ps) = true :=
  rightB_all (ofL_length ps).1 (ofL_length ps).2 fun i _ q hq => ofL_right ps q (List.mem_of_getElem? hq)
theorem fits_of {A : Option Addr} {n c k : Nat} {ps : List (Int × Int)} {A' : Option Addr} {n' c' k' : Nat} {xs : List Int} {w : World} {b : Bool} (h : Sp w k A n c ps) (hk : k ≤ w.heap.size) (h' : Si w k' A' n' c' xs) (hk' : k' ≤ w.heap.size) (hr : ∀ p ∈ ps, p.1 ≤ p.2) (hb : fitsB ps xs = b) :
    Calls Try.prog 15 #[.slice A n c, .slice A' n' c'] w fun e w' => e = .returned (.bool b) ∧ Below w.heap.size w w' := by
  subst hb; exact fits_any A n c k ps A' n' c' k' xs w h hk h' hk' hr
theorem vals_of {A : Option Addr} {n c k : Nat} {xs : List Int} {A' : Option Addr} {n' c' k' : Nat} {ys : List Int} {w : World} {b : Bool} (h : Si w k A n c xs) (hk : k ≤ w.heap.size) (h' : Si w k' A' n' c' ys) (hk' : k' ≤ w.heap.size) (hb : decide (xs = ys) = b) :
    Calls Try.prog 17 #[.slice A n c, .slice A' n' c'] w fun e w' => e = .returned (.bool b) ∧ Below w.heap.size w w' := by
  subst hb; exact vals_any A n c k xs A' n' c' k' ys w h hk h' hk'
theorem right_of' {A : Option Addr} {n c k : Nat} {ps : List (Int × Int)} {w : World} {b : Bool} (h : Sp w k A n c ps) (hk : k ≤ w.heap.size) (hb : rightB ps = b) :
    Calls Try.prog 10 #[.slice A n c] w fun e w' => e = .returned (.bool b) ∧ Below w.heap.size w w' := by
  subst hb; exact right_any A n c k ps w h hk
set_option maxRecDepth 100000 in
set_option maxHeartbeats 4000000 in
theorem sbring_walk (A : Option Addr) (n c : Nat) (l : List (Int × Int)) (A' : Option Addr) (n' c' : Nat) (xs : List Int) (w : World) (h : Sp w w.heap.size A n c l) (h' : Si w w.heap.size A' n' c' xs) :
    Calls Try.prog 4 #[.slice A n c, .slice A' n' c'] w fun e w' => e = .returned (.bool true) ∧ Below w.heap.size w w' := by
  have hm' := h'.max
  have hc' := h'.cap
  unfold maxLen at hm'
  by_cases h20 : 20 < n'
  · clear h h'
    go_enter Try.func4, Try.ntmps4
    go_wp2_with fail
    refine (awake_any w).mono ?_
    rintro r w7 ⟨rfl, b7⟩
    go_wp2
    go_ret
    exact ⟨rfl, b7⟩
  have HL' : Hid (n' = xs.length) := si_len h'
  have HS : Hid (Sp w w.heap.size A n c l) := h
  have HS' : Hid (Si w w.heap.size A' n' c' xs) := h'
  clear h h'
  have HQ : ∃ ps, Hid (ofL l = ps) ∧ Hid (∀ p ∈ ps, p.1 ≤ p.2) ∧ (1 ≤ ps.length ∧ ps.length ≤ 4) ∧ Hid (rightB ps = true) := ⟨_, rfl, ofL_right l, ofL_length l, ofL_rightB l⟩
  obtain ⟨ps, HO, HR, ⟨hp1, hp4⟩, HRB⟩ := HQ
  go_enter Try.func4, Try.ntmps4
  go_wp2_with fail
  refine (of_any _ _ _ l w HS.out).mono ?_
  rw [HO.out]
  rintro r w1 ⟨A1, c1, rfl, s1, b1⟩
  have S1 := Lib.hid s1
  clear s1
  have HP : ∃ m, Hid (ps.length = m) := ⟨_, rfl⟩
  obtain ⟨m, HP⟩ := HP
  have hm1 := S1.out.max
  have hk1 := S1.out.cap
  unfold maxLen at hm1
  rw [HP.out] at hp1 hp4 hk1 S1
  rw [HP.out]
  go_wp2_with fail
  refine (bring_any _ _ _ _ ps _ _ _ _ xs w1 S1.out (Nat.le_refl _) (HS'.out.next b1) (Nat.le_refl _) hp4).mono ?_
  rintro r w2 ⟨A2, c2, rfl, o2, b2⟩
  have e2 : (bringL ps xs).length = m := by rw [bringL_length, HP.out]
  rw [e2] at o2
  rw [e2]
  have X2 := Lib.hid o2.sv
  have hm2 := X2.out.max
  have hk2 := X2.out.cap
  unfold maxLen at hm2
  clear o2 e2
  go_wp2_with fail
  refine (right_of' (S1.out.next b2) (Nat.le_refl _) HRB.out).mono ?_
  rintro r w3 ⟨rfl, b3⟩
  go_wp2_with fail
  refine (fits_of (S1.out.next (thn b2 b3)) (Nat.le_refl _) (X2.out.next b3) (Nat.le_refl _) HR.out (bring_fits ps xs HR.out)).mono ?_
  rintro r w4 ⟨rfl, b4⟩
  have b24 := thn b3 b4
  go_wp2_with fail
  refine (bring_any _ _ _ _ ps _ _ _ _ (bringL ps xs) w4 (S1.out.next (thn b2 b24)) (Nat.le_refl _) (X2.out.next b24) (Nat.le_refl _) hp4).mono ?_
  rintro r w5 ⟨A5, c5, rfl, o5, b5⟩
  rw [bring_same (bring_fits ps xs HR.out)] at o5
  have e5 : (bringL ps (bringL ps xs)).length = (bringL ps xs).length := by rw [bringL_length, bringL_length]
  rw [e5]
  have b25 := thn b24 b5
  clear b3 b4 e5
  go_wp2_with fail
  refine (vals_of o5.sv (Nat.le_refl _) (X2.out.next b25) (Nat.le_refl _) (decide_eq_true rfl)).mono ?_
  rintro r w6 ⟨rfl, b6⟩
  have b26 := thn b25 b6
  clear b5 b6 o5 b24 b25
  go_wp2_with fail
  cases hf : fitsB ps xs with
  | false =>
    have HF := Lib.hid hf
    clear hf
    refine (fits_of (S1.out.next (thn b2 b26)) (Nat.le_refl _) (HS'.out.next (thn (thn b1 b2) b26)) (Nat.le_refl _) HR.out HF.out).mono ?_
    rintro r w7 ⟨rfl, b7⟩
    have b27 := thn b26 b7
    clear b7 b26
    have S7 := Lib.hid (S1.out.next (thn b2 b27))
    have X7 := Lib.hid (X2.out.next b27)
    have V7 := Lib.hid (HS'.out.next (thn (thn b1 b2) b27))
    have bb := thn (thn b1 b2) b27
    clear b27 S1 X2 HS' b2 b1 HS
    go_wp2_with fail
    go_loop [49] (fun i => ∃ j : Nat, j ≤ m ∧ i = .int .i64 j) (fun i => m - (intOf i).toNat)
    case atStart => exact ⟨0, Nat.zero_le _, rfl⟩
    case round =>
      obtain ⟨j, hj, rfl⟩ := hrel
      by_cases hlt : j < m
      · obtain ⟨bs, os, p, rfl, _, hp, q1, q2⟩ := sp_at S7.out hlt
        obtain ⟨bx, ox, x, rfl, _, hx, q3⟩ := si_at X7.out hlt
        have HPR := HR.out p (List.mem_of_getElem? hp)
        have HX : Hid (x = bro (xs.getD j 0) p) := by
          rw [bringL_get ps xs j p hp] at hx
          injection hx with hx
          exact hx.symm
        have i0 : (0 : Int) ≤ (j : Int) := by omega
        have i1 : (j : Int) < (m : Int) := by omega
        have HW : (j < n' ∧ ∃ b' o' y, A' = some ⟨b', o', none⟩ ∧ w7.cell? ⟨b', o' + j, none⟩ = some (.int .i32 y) ∧ Hid (xs.getD j 0 = y)) ∨ (n' ≤ j ∧ Hid (xs.getD j 0 = 0)) := by
          rcases Nat.lt_or_ge j n' with h | h
          · obtain ⟨b', o', y, e, _, hy, cy⟩ := si_at V7.out h
            exact .inl ⟨h, b', o', y, e, cy, getD_of hy⟩
          · exact .inr ⟨h, by unfold Hid; have := HL'.out; simp [List.getD]; rw [List.getElem?_eq_none (by omega)]; rfl⟩
        clear hp hx
        rcases HW with ⟨hjn, b', o', y, rfl, cy, HY⟩ | ⟨hjn, HY⟩
        · have HXY : x = bro y p := by rw [← HY.out]; exact HX.out
          unfold bro at HXY
          have hc : (y < p.1 ∧ x = p.1) ∨ (p.2 < y ∧ p.1 ≤ y ∧ x = p.2) ∨ (p.1 ≤ y ∧ y ≤ p.2 ∧ x = y) := by omega
          clear HXY HX HY
          rcases hc with ⟨k1, rfl⟩ | ⟨k1, k2, rfl⟩ | ⟨k1, k2, rfl⟩
          · go_wp2_with fail
            go_round
            case rel => exact ⟨j + 1, by omega, by go_num⟩
            case measure => simp [intOf]; omega
          · go_wp2_with fail
            go_round
            case rel => exact ⟨j + 1, by omega, by go_num⟩
            case measure => simp [intOf]; omega
          · go_wp2_with fail
            go_round
            case rel => exact ⟨j + 1, by omega, by go_num⟩
            case measure => simp [intOf]; omega
        · have HXY : x = bro 0 p := by rw [← HY.out]; exact HX.out
          unfold bro at HXY
          have hc : (0 < p.1 ∧ x = p.1) ∨ (p.2 < 0 ∧ p.1 ≤ 0 ∧ x = p.2) ∨ (p.1 ≤ 0 ∧ 0 ≤ p.2 ∧ x = 0) := by omega
          clear HXY HX HY
          rcases hc with ⟨k1, rfl⟩ | ⟨k1, k2, rfl⟩ | ⟨k1, k2, rfl⟩
          · go_wp2_with fail
            go_round
            case rel => exact ⟨j + 1, by omega, by go_num⟩
            case measure => simp [intOf]; omega
          · go_wp2_with fail
            go_round
            case rel => exact ⟨j + 1, by omega, by go_num⟩
            case measure => simp [intOf]; omega
          · go_wp2_with fail
            go_round
            case rel => exact ⟨j + 1, by omega, by go_num⟩
            case measure => simp [intOf]; omega
      · obtain rfl : m = j := by omega
        go_wp2_with fail
        refine (awake_any w7).mono ?_
        rintro r w9 ⟨rfl, b9⟩
        go_wp2
        go_ret
        exact ⟨rfl, thn bb b9⟩
  | true =>
    have HF := Lib.hid hf
    clear hf
    refine (fits_of (S1.out.next (thn b2 b26)) (Nat.le_refl _) (HS'.out.next (thn (thn b1 b2) b26)) (Nat.le_refl _) HR.out HF.out).mono ?_
    rintro r w7 ⟨rfl, b7⟩
    go_wp2_with fail
    refine (vals_of (X2.out.next (thn b26 b7)) (Nat.le_refl _) (HS'.out.next (thn (thn b1 b2) (thn b26 b7))) (Nat.le_refl _) (decide_eq_true (bring_same HF.out))).mono ?_
    rintro r w8 ⟨rfl, b8⟩
    have b27 := thn (thn b26 b7) b8
    clear b7 b8 b26
    have S7 := Lib.hid (S1.out.next (thn b2 b27))
    have X7 := Lib.hid (X2.out.next b27)
    have V7 := Lib.hid (HS'.out.next (thn (thn b1 b2) b27))
    have bb := thn (thn b1 b2) b27
    clear b27 S1 X2 HS' b2 b1 HS
    go_wp2_with fail
    go_loop [49] (fun i => ∃ j : Nat, j ≤ m ∧ i = .int .i64 j) (fun i => m - (intOf i).toNat)
    case atStart => exact ⟨0, Nat.zero_le _, rfl⟩
    case round =>
      obtain ⟨j, hj, rfl⟩ := hrel
      by_cases hlt : j < m
      · obtain ⟨bs, os, p, rfl, _, hp, q1, q2⟩ := sp_at S7.out hlt
        obtain ⟨bx, ox, x, rfl, _, hx, q3⟩ := si_at X7.out hlt
        have HPR := HR.out p (List.mem_of_getElem? hp)
        have HX : Hid (x = bro (xs.getD j 0) p) := by
          rw [bringL_get ps xs j p hp] at hx
          injection hx with hx
          exact hx.symm
        have i0 : (0 : Int) ≤ (j : Int) := by omega
        have i1 : (j : Int) < (m : Int) := by omega
        have HW : (j < n' ∧ ∃ b' o' y, A' = some ⟨b', o', none⟩ ∧ w8.cell? ⟨b', o' + j, none⟩ = some (.int .i32 y) ∧ Hid (xs.getD j 0 = y)) ∨ (n' ≤ j ∧ Hid (xs.getD j 0 = 0)) := by
          rcases Nat.lt_or_ge j n' with h | h
          · obtain ⟨b', o', y, e, _, hy, cy⟩ := si_at V7.out h
            exact .inl ⟨h, b', o', y, e, cy, getD_of hy⟩
          · exact .inr ⟨h, by unfold Hid; have := HL'.out; simp [List.getD]; rw [List.getElem?_eq_none (by omega)]; rfl⟩
        clear hp hx
        rcases HW with ⟨hjn, b', o', y, rfl, cy, HY⟩ | ⟨hjn, HY⟩
        · have HXY : x = bro y p := by rw [← HY.out]; exact HX.out
          unfold bro at HXY
          have hc : (y < p.1 ∧ x = p.1) ∨ (p.2 < y ∧ p.1 ≤ y ∧ x = p.2) ∨ (p.1 ≤ y ∧ y ≤ p.2 ∧ x = y) := by omega
          clear HXY HX HY
          rcases hc with ⟨k1, rfl⟩ | ⟨k1, k2, rfl⟩ | ⟨k1, k2, rfl⟩
          · go_wp2_with fail
            go_round
            case rel => exact ⟨j + 1, by omega, by go_num⟩
            case measure => simp [intOf]; omega
          · go_wp2_with fail
            go_round
            case rel => exact ⟨j + 1, by omega, by go_num⟩
            case measure => simp [intOf]; omega
          · go_wp2_with fail
            go_round
            case rel => exact ⟨j + 1, by omega, by go_num⟩
            case measure => simp [intOf]; omega
        · have HXY : x = bro 0 p := by rw [← HY.out]; exact HX.out
          unfold bro at HXY
          have hc : (0 < p.1 ∧ x = p.1) ∨ (p.2 < 0 ∧ p.1 ≤ 0 ∧ x = p.2) ∨ (p.1 ≤ 0 ∧ 0 ≤ p.2 ∧ x = 0) := by omega
          clear HXY HX HY
          rcases hc with ⟨k1, rfl⟩ | ⟨k1, k2, rfl⟩ | ⟨k1, k2, rfl⟩
          · go_wp2_with fail
            go_round
            case rel => exact ⟨j + 1, by omega, by go_num⟩
            case measure => simp [intOf]; omega
          · go_wp2_with fail
            go_round
            case rel => exact ⟨j + 1, by omega, by go_num⟩
            case measure => simp [intOf]; omega
          · go_wp2_with fail
            go_round
            case rel => exact ⟨j + 1, by omega, by go_num⟩
            case measure => simp [intOf]; omega
      · obtain rfl : m = j := by omega
        go_wp2_with fail
        refine (awake_any w8).mono ?_
        rintro r w9 ⟨rfl, b9⟩
        go_wp2
        go_ret
        exact ⟨rfl, thn bb b9⟩
end Go.Proofs.Yteofjhoemcjlnaa
