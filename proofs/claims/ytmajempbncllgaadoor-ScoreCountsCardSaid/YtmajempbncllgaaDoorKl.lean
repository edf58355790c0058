/- Layer 6: the reference's Key. -/
import Derived.Test.YtmajempbncllgaaDoorKk
import Derived.Test.YtmajempbncllgaaDoorFl3
namespace Go.Proofs.YtmajempbncllgaaDoor
open Go.RowKit
set_option linter.unusedVariables false
/-- Half of a sum, rounded down, out of the division that rounds to 0. -/
theorem half_pos {s : Int} (h : 0 ≤ s) : Int.tdiv s 2 = s / 2 := Int.tdiv_eq_ediv_of_nonneg h
theorem half_even {s : Int} (h : s < 0) (h2 : Int.tmod s 2 = 0) : Int.tdiv s 2 = s / 2 := by
  have := Int.mul_tdiv_add_tmod s 2
  omega
theorem half_odd {s : Int} (h : s < 0) (h2 : Int.tmod s 2 ≠ 0) : Int.tdiv s 2 - 1 = s / 2 := by
  have h1 := Int.mul_tdiv_add_tmod s 2
  have h4 : 0 ≤ Int.tmod (-s) 2 := Int.tmod_nonneg 2 (by omega)
  have h5 : Int.tmod (-s) 2 < 2 := Int.tmod_lt_of_pos _ (by decide)
  rw [Int.neg_tmod] at h4 h5
  omega
set_option maxHeartbeats 4000000 in
theorem refKey_any (A : Option Addr) (n c : Nat) (ps : List (Int × Int)) (A' : Option Addr) (n' c' : Nat) (fs : List (Int × Int)) (w : World) (hr : ∀ p ∈ ps, inR p) (hs : ∀ p ∈ fs, inR p) (hR : rightF ps fs = true) (h4 : fs.length ≤ 4) (h : Sp w w.heap.size A n c ps) (h' : Sp w w.heap.size A' n' c' fs) :
    Calls Tryd.prog 15 #[.slice A n c, .slice A' n' c'] w fun e w' => e = .returned (.int .u8 (keyF ps fs)) ∧ Below w.heap.size w w' := by
  have HL := Lib.hid (sp_len h)
  have HL' := Lib.hid (sp_len h')
  have hl := right_len hR
  have hn4 : n' ≤ 4 := by rw [HL'.out]; exact h4
  have hnn : n' = 0 ∨ n' = n := by rw [HL.out, HL'.out]; exact hl
  have HN : Hid (keyN ps fs n' = keyF ps fs) := by
    rcases hl with hl | hl
    · have : fs = [] := List.eq_nil_of_length_eq_zero hl
      subst this
      rw [HL'.out]; rfl
    · unfold Hid; rw [HL'.out]; exact keyN_all hl
  have HB : Hid (∀ i, i ≤ n' → 0 ≤ keyN ps fs i ∧ keyN ps fs i ≤ 255) := fun i hi => keyN_byte hR h4 i (by rw [← HL'.out]; exact hi)
  have HR := Lib.hid hR
  have HI := Lib.hid hr
  have HI' := Lib.hid hs
  have HS := Lib.hid h
  have HS' := Lib.hid h'
  generalize keyF ps fs = K at *
  clear h h' hr hs hR h4 hl
  by_cases h0 : n' = 0
  · subst h0
    go_enter Tryd.func15, Tryd.ntmps15
    go_wp2
    go_ret
    exact ⟨by rw [← HN.out]; rfl, Below.refl _ _⟩
  have h0' : ((n' : Int) == 0) = false := by simpa using h0
  go_enter Tryd.func15, Tryd.ntmps15
  go_wp2
  go_loopw [5, 6] (fun v i wr => ∃ (j : Nat) (k : Int), j ≤ n' ∧ i = .int .i64 j ∧ v = .int .i64 k ∧ Hid (k = keyN ps fs j) ∧ Below w.heap.size w wr) (fun _ i _ => n' - (intOf i).toNat)
  case atStart => exact ⟨0, 0, Nat.zero_le _, rfl, rfl, rfl, Below.refl _ _⟩
  case round =>
    obtain ⟨j, k, hj, rfl, rfl, HK, b2⟩ := hrel
    obtain ⟨wo, rfl⟩ : ∃ wo, wo = wr := ⟨_, rfl⟩
    have i0 : (0 : Int) ≤ (j : Int) := by omega
    obtain ⟨hk0, hk1⟩ := HB.out j hj
    rw [← HK.out] at hk0 hk1
    by_cases hlt : j < n'
    · have hlt2 : j < n := by omega
      obtain ⟨b, off, x, rfl, hp', HX'⟩ := sp_cells (HS'.out.next b2) hlt
      obtain ⟨b', off', r, rfl, hp, HX⟩ := sp_cells (HS.out.next b2) hlt2
      have i1 : (j : Int) < (n' : Int) := by omega
      have i2 : (j : Int) < (n : Int) := by omega
      obtain ⟨⟨hx0, hx1⟩, hx2, hx3⟩ := HI'.out x (List.mem_of_getElem? hp')
      obtain ⟨⟨hr0, hr1⟩, hr2, hr3⟩ := HI.out r (List.mem_of_getElem? hp)
      have hok := ok_get HR.out hp hp'
      obtain ⟨q, HQ⟩ : ∃ q, Hid (quarF r x = q) := ⟨_, rfl⟩
      have HKs : Hid (keyN ps fs (j + 1) = 4 * k + q) := by unfold Hid; rw [keyN_succ hp hp', ← HK.out, HQ.out]
      obtain ⟨hm0, hm1⟩ := HB.out (j + 1) hlt
      have hq := quar_of hok
      rw [HQ.out] at hq
      obtain ⟨hq0, hq1⟩ := hq
      rw [HKs.out] at hm0 hm1
      unfold okF at hok
      simp only [Bool.and_eq_true, decide_eq_true_eq] at hok
      obtain ⟨⟨g1, g2⟩, g3⟩ := hok
      obtain ⟨m, Hm⟩ : ∃ m, Hid ((x.1 + x.2) / 2 = m) := ⟨_, rfl⟩
      obtain ⟨l, hl⟩ : ∃ l, r.2 - r.1 + 1 = l := ⟨_, rfl⟩
      have Hl := Lib.hid hl
      have hl0 : 0 < l := by omega
      have hl1 : l ≤ 4294967296 := by omega
      have hm2 : r.1 ≤ m := by have := Hm.out; omega
      have hm3 : m ≤ r.2 := by have := Hm.out; omega
      have HQ2 : Hid (4 * (m - r.1) / l = q) := by unfold Hid; rw [← HQ.out, ← Hm.out, ← hl]; rfl
      have B2 := Lib.hid b2
      clear b2 hp hp' HQ
      obtain ⟨u0, u1⟩ := HX'.out wo (Below.refl _ _)
      obtain ⟨v0, v1⟩ := HX.out wo (Below.refl _ _)
      obtain ⟨s, es⟩ : ∃ s, x.1 + x.2 = s := ⟨_, rfl⟩
      have hs0 : -4294967296 ≤ s := by omega
      have hs1 : s ≤ 4294967294 := by omega
      rw [es] at Hm
      obtain ⟨d, ed⟩ : ∃ d, Int.tdiv s 2 = d := ⟨_, rfl⟩
      by_cases hs : 0 ≤ s
      · have hd : d = m := by rw [← ed, half_pos hs]; exact Hm.out
        subst hd
        have hs' : ¬ s < 0 := by omega
        go_wp2
        go_quiet (fail)
        have B3 := Lib.hid (dN B2.out nq)
        have BD := Lib.hid (dN (Below.refl wo.heap.size wo) nq)
        obtain ⟨v0, v1⟩ := HX.out _ BD.out
        generalize wo.drewN nq = w2 at *
        go_wp2
        go_quiet (fail)
        have B4 := Lib.hid (dN B3.out nq)
        have BE := Lib.hid (dN BD.out nq)
        generalize w2.drewN nq = w3 at *
        clear u0 u1 v0 v1
        go_wp2
        go_loopw [10] (fun t wr => ∃ (i : Nat), (i : Int) ≤ q ∧ t = .int .i64 i ∧ Below w.heap.size w wr ∧ Below wo.heap.size wo wr) (fun t _ => q.toNat - (intOf t).toNat)
        case atStart => exact ⟨0, by omega, rfl, B4.out, BE.out⟩
        case round =>
          obtain ⟨i, hi, rfl, b5, b6⟩ := hrel
          have B5 := Lib.hid b5
          have B6 := Lib.hid b6
          clear b5 b6
          obtain ⟨v0, v1⟩ := HX.out wr B6.out
          have ii0 : (0 : Int) ≤ (i : Int) := by omega
          have ii3 : (i : Int) ≤ 3 := by omega
          obtain ⟨v, ev⟩ : ∃ v, ((i : Int) + 1) * l = v := ⟨_, rfl⟩
          have hvb : 0 ≤ v ∧ v ≤ 17179869184 := by
            have h1 : 0 ≤ ((i : Int) + 1) * l := Int.mul_nonneg (by omega) (by omega)
            have h2 : ((i : Int) + 1) * l ≤ 4 * l := Int.mul_le_mul_of_nonneg_right (by omega) (by omega)
            omega
          obtain ⟨hv0, hv1⟩ := hvb
          have hv : (i : Int) + 1 ≤ q ↔ v ≤ 4 * (d - r.1) := by
            rw [← HQ2.out, ← ev]
            exact Int.le_ediv_iff_mul_le hl0
          by_cases hlt3 : (i : Int) < q
          · have hv' : v ≤ 4 * (d - r.1) := hv.1 (by omega)
            clear hv
            go_wp2
            go_roundw
            case rel => exact ⟨i + 1, by omega, by go_num, B5.out, B6.out⟩
            case measure => simp [intOf]; omega
          · have hv' : 4 * (d - r.1) < v := by
              have := mt hv.2 (by omega)
              omega
            have hiq : (i : Int) = q := by omega
            have Hiq := Lib.hid hiq
            have hkq : 4 * k + (i : Int) ≤ 255 := by omega
            clear hiq
            clear hv
            go_wp2
            go_roundw
            case rel => exact ⟨j + 1, 4 * k + (i : Int), by omega, by go_num, rfl, by unfold Hid; rw [HKs.out, Hiq.out], B5.out⟩
            case measure => simp [intOf]; omega
      · have hs' : s < 0 := by omega
        by_cases h2 : Int.tmod s 2 = 0
        · have hd : d = m := by rw [← ed, half_even hs' h2]; exact Hm.out
          subst hd
          go_wp2
          go_quiet (fail)
          have B3 := Lib.hid (dN B2.out nq)
          have BD := Lib.hid (dN (Below.refl wo.heap.size wo) nq)
          obtain ⟨v0, v1⟩ := HX.out _ BD.out
          generalize wo.drewN nq = w2 at *
          go_wp2
          go_quiet (fail)
          have B4 := Lib.hid (dN B3.out nq)
          have BE := Lib.hid (dN BD.out nq)
          generalize w2.drewN nq = w3 at *
          clear u0 u1 v0 v1
          go_wp2
          go_loopw [10] (fun t wr => ∃ (i : Nat), (i : Int) ≤ q ∧ t = .int .i64 i ∧ Below w.heap.size w wr ∧ Below wo.heap.size wo wr) (fun t _ => q.toNat - (intOf t).toNat)
          case atStart => exact ⟨0, by omega, rfl, B4.out, BE.out⟩
          case round =>
            obtain ⟨i, hi, rfl, b5, b6⟩ := hrel
            have B5 := Lib.hid b5
            have B6 := Lib.hid b6
            clear b5 b6
            obtain ⟨v0, v1⟩ := HX.out wr B6.out
            have ii0 : (0 : Int) ≤ (i : Int) := by omega
            have ii3 : (i : Int) ≤ 3 := by omega
            obtain ⟨v, ev⟩ : ∃ v, ((i : Int) + 1) * l = v := ⟨_, rfl⟩
            have hvb : 0 ≤ v ∧ v ≤ 17179869184 := by
              have h1 : 0 ≤ ((i : Int) + 1) * l := Int.mul_nonneg (by omega) (by omega)
              have h2 : ((i : Int) + 1) * l ≤ 4 * l := Int.mul_le_mul_of_nonneg_right (by omega) (by omega)
              omega
            obtain ⟨hv0, hv1⟩ := hvb
            have hv : (i : Int) + 1 ≤ q ↔ v ≤ 4 * (d - r.1) := by
              rw [← HQ2.out, ← ev]
              exact Int.le_ediv_iff_mul_le hl0
            by_cases hlt3 : (i : Int) < q
            · have hv' : v ≤ 4 * (d - r.1) := hv.1 (by omega)
              clear hv
              go_wp2
              go_roundw
              case rel => exact ⟨i + 1, by omega, by go_num, B5.out, B6.out⟩
              case measure => simp [intOf]; omega
            · have hv' : 4 * (d - r.1) < v := by
                have := mt hv.2 (by omega)
                omega
              have hiq : (i : Int) = q := by omega
              have Hiq := Lib.hid hiq
              have hkq : 4 * k + (i : Int) ≤ 255 := by omega
              clear hiq
              clear hv
              go_wp2
              go_roundw
              case rel => exact ⟨j + 1, 4 * k + (i : Int), by omega, by go_num, rfl, by unfold Hid; rw [HKs.out, Hiq.out], B5.out⟩
              case measure => simp [intOf]; omega
        · have hd : d - 1 = m := by rw [← ed, half_odd hs' h2]; exact Hm.out
          obtain ⟨z, ez⟩ : ∃ z, Int.tmod s 2 = z := ⟨_, rfl⟩
          rw [ez] at h2
          have h2' : (z == 0) = false := by simpa using h2
          go_wp2
          go_quiet (fail)
          have B3 := Lib.hid (dN B2.out nq)
          have BD := Lib.hid (dN (Below.refl wo.heap.size wo) nq)
          obtain ⟨v0, v1⟩ := HX.out _ BD.out
          generalize wo.drewN nq = w2 at *
          go_wp2
          go_quiet (fail)
          have B4 := Lib.hid (dN B3.out nq)
          have BE := Lib.hid (dN BD.out nq)
          generalize w2.drewN nq = w3 at *
          clear u0 u1 v0 v1
          go_wp2
          go_loopw [10] (fun t wr => ∃ (i : Nat), (i : Int) ≤ q ∧ t = .int .i64 i ∧ Below w.heap.size w wr ∧ Below wo.heap.size wo wr) (fun t _ => q.toNat - (intOf t).toNat)
          case atStart => exact ⟨0, by omega, rfl, B4.out, BE.out⟩
          case round =>
            obtain ⟨i, hi, rfl, b5, b6⟩ := hrel
            have B5 := Lib.hid b5
            have B6 := Lib.hid b6
            clear b5 b6
            obtain ⟨v0, v1⟩ := HX.out wr B6.out
            have ii0 : (0 : Int) ≤ (i : Int) := by omega
            have ii3 : (i : Int) ≤ 3 := by omega
            obtain ⟨v, ev⟩ : ∃ v, ((i : Int) + 1) * l = v := ⟨_, rfl⟩
            have hvb : 0 ≤ v ∧ v ≤ 17179869184 := by
              have h1 : 0 ≤ ((i : Int) + 1) * l := Int.mul_nonneg (by omega) (by omega)
              have h2 : ((i : Int) + 1) * l ≤ 4 * l := Int.mul_le_mul_of_nonneg_right (by omega) (by omega)
              omega
            obtain ⟨hv0, hv1⟩ := hvb
            have hv : (i : Int) + 1 ≤ q ↔ v ≤ 4 * (m - r.1) := by
              rw [← HQ2.out, ← ev]
              exact Int.le_ediv_iff_mul_le hl0
            by_cases hlt3 : (i : Int) < q
            · have hv' : v ≤ 4 * (m - r.1) := hv.1 (by omega)
              clear hv
              go_wp2
              go_roundw
              case rel => exact ⟨i + 1, by omega, by go_num, B5.out, B6.out⟩
              case measure => simp [intOf]; omega
            · have hv' : 4 * (m - r.1) < v := by
                have := mt hv.2 (by omega)
                omega
              have hiq : (i : Int) = q := by omega
              have Hiq := Lib.hid hiq
              have hkq : 4 * k + (i : Int) ≤ 255 := by omega
              clear hiq
              clear hv
              go_wp2
              go_roundw
              case rel => exact ⟨j + 1, 4 * k + (i : Int), by omega, by go_num, rfl, by unfold Hid; rw [HKs.out, Hiq.out], B5.out⟩
              case measure => simp [intOf]; omega
    · obtain rfl : j = n' := by omega
      have i1 : ¬ (j : Int) < (j : Int) := by omega
      go_wp2
      go_ret
      exact ⟨by rw [← HN.out, ← HK.out]; rfl, b2⟩
end Go.Proofs.YtmajempbncllgaaDoor
