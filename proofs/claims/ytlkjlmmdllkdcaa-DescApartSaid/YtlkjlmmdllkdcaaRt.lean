/- Layer 9: the reference Right. -/
import Derived.Test.YtlkjlmmdllkdcaaRs
namespace Go.Proofs.Ytlkjlmmdllkdcaa
open Go.RowKit
set_option linter.unusedVariables false
/-- A view, each Inc at least 1. -/
def RightD (ds : List Dsc) (self room : Int) : Prop := (∀ d ∈ ds, d.1 ≠ self ∧ d.2.1 ≠ 0) ∧ ds.Pairwise (fun a b => a.1 < b.1) ∧ 0 ≤ room ∧ (ds.length : Int) ≤ room
instance (ds : List Dsc) (self room : Int) : Decidable (RightD ds self room) := inferInstanceAs (Decidable (_ ∧ _ ∧ _ ∧ _))
/-- Up to j all is well. -/
def WellX (xs : List (Dsc × Hd)) (self : Int) (j : Nat) : Prop := ∀ i x, i < j → xs[i]? = some x → (x.1.1 ≠ self ∧ x.1.2.1 ≠ 0) ∧ ∀ k y, k < i → xs[k]? = some y → y.1.1 < x.1.1
theorem well_right {xs : List (Dsc × Hd)} {self room : Int} (h : WellX xs self xs.length) : RightD (xs.map (·.1)) self room ↔ 0 ≤ room ∧ (xs.length : Int) ≤ room := by
  unfold RightD
  rw [List.length_map]
  constructor
  · exact fun h => h.2.2
  · intro hr
    refine ⟨fun d hd => ?_, ?_, hr⟩
    · obtain ⟨x, hx, rfl⟩ := List.mem_map.1 hd
      obtain ⟨i, hi, e⟩ := List.mem_iff_getElem.1 hx
      exact (h i x hi (by rw [← e]; exact List.getElem?_eq_getElem hi)).1
    · rw [List.pairwise_map]
      refine List.pairwise_iff_getElem.2 fun i j hi hj hij => ?_
      exact (h j _ hj (List.getElem?_eq_getElem hj)).2 i _ hij (List.getElem?_eq_getElem hi)
theorem ill_right {xs : List (Dsc × Hd)} {self room : Int} {j : Nat} {x : Dsc × Hd} (hx : xs[j]? = some x) (h : (x.1.1 = self ∨ x.1.2.1 = 0) ∨ ∃ k y, k < j ∧ xs[k]? = some y ∧ x.1.1 ≤ y.1.1) : ¬ RightD (xs.map (·.1)) self room := by
  rintro ⟨h1, h2, _⟩
  rcases h with h | ⟨k, y, hk, hy, hle⟩
  · have := h1 x.1 (List.mem_map.2 ⟨x, List.mem_of_getElem? hx, rfl⟩)
    rcases h with h | h
    · exact this.1 h
    · exact this.2 h
  · rw [List.pairwise_map] at h2
    have hj := (List.getElem?_eq_some_iff.1 hx).1
    have := List.pairwise_iff_getElem.1 h2 k j (by omega) hj hk
    rw [(List.getElem?_eq_some_iff.1 hx).2, (List.getElem?_eq_some_iff.1 hy).2] at this
    omega
set_option maxHeartbeats 2000000 in
theorem refright_any (A : Option Addr) (n c : Nat) (xs : List (Dsc × Hd)) (self room : Int) (w : World) (h : Sds w A n c xs) : Calls Try.prog 11 #[.slice A n c, .int .u8 self, .int .i64 room] w fun e w' => e = .returned (.bool (decide (RightD (xs.map (·.1)) self room))) ∧ Below w.heap.size w w' := by
  have HL : Hid (n = xs.length) := h.len
  have hm := h.max
  have hc := h.cap
  unfold maxLen at hm
  have HS := Lib.hid h
  clear h
  go_enter Try.func11, Try.ntmps11
  go_wp2
  go_loopw [7, 8] (fun iv _ wr => ∃ j : Nat, j ≤ n ∧ iv = .int .i64 j ∧ Hid (WellX xs self j) ∧ Hid (Below w.heap.size w wr)) (fun iv _ _ => n - (intOf iv).toNat)
  case atStart => exact ⟨0, Nat.zero_le _, rfl, fun i x hi => absurd hi (Nat.not_lt_zero _), Below.refl _ _⟩
  case round =>
    obtain ⟨j, hj, rfl, HB, B⟩ := hrel
    have i0 : (0 : Int) ≤ (j : Int) := by omega
    by_cases hlt : j < n
    · obtain ⟨b, off, x, rfl, hb, hx, hxm, c0, c1, c2, c3⟩ := (HS.out.next B.out).at_ hlt
      have i1 : (j : Int) < (n : Int) := by omega
      have HX := Lib.hid hx
      by_cases he : x.1.1 = self
      · have HF : Hid (decide (RightD (xs.map (·.1)) self room) = false) := decide_eq_false (ill_right hx (.inl (.inl he)))
        have heb : (x.1.1 == self) = true := by simpa using he
        clear he hx hxm hb
        go_wp2
        go_ret
        exact ⟨ret_bool HF.out.symm, B.out⟩
      · by_cases he2 : x.1.2.1 = 0
        · have HF : Hid (decide (RightD (xs.map (·.1)) self room) = false) := decide_eq_false (ill_right hx (.inl (.inr he2)))
          have heb : (x.1.1 == self) = false := by simpa using he
          have heb2 : (x.1.2.1 == 0) = true := by simpa using he2
          clear he he2 hx hxm hb
          go_wp2
          go_ret
          exact ⟨ret_bool HF.out.symm, B.out⟩
        · have HE : Hid (x.1.1 ≠ self ∧ x.1.2.1 ≠ 0) := ⟨he, he2⟩
          have heb : (x.1.1 == self) = false := by simpa using he
          have heb2 : (x.1.2.1 == 0) = false := by simpa using he2
          clear he he2 hx hxm hb
          go_wp2
          clear c0 c1 c2 c3
          go_loopw [8] (fun kv wq => ∃ k : Nat, k ≤ j ∧ kv = .int .i64 k ∧ Hid (∀ i y, i < k → xs[i]? = some y → y.1.1 < x.1.1) ∧ Hid (Below w.heap.size w wq)) (fun kv _ => j - (intOf kv).toNat)
          case atStart => exact ⟨0, Nat.zero_le _, rfl, fun i y hi => absurd hi (Nat.not_lt_zero _), B⟩
          case round =>
            clear B
            obtain ⟨k, hk, rfl, HK, B⟩ := hrel
            have k0 : (0 : Int) ≤ (k : Int) := by omega
            by_cases hkl : k < j
            · have k1 : (k : Int) < (j : Int) := by omega
              have k2 : (k : Int) < (n : Int) := by omega
              obtain ⟨b1, off1, x1, hA1, hx1, hxm1, HC1⟩ := (HS.out.next B.out).cells hlt
              injection hA1 with hA1
              injection hA1 with e1 e2 e3
              subst e1 e2
              obtain ⟨b2, off2, y, hA2, hy, hym, HC2⟩ := (HS.out.next B.out).cells (j := k) (by omega)
              injection hA2 with hA2
              injection hA2 with e1 e2 e3
              subst e1 e2
              have hxe : x1 = x := Option.some.inj (hx1.symm.trans HX.out)
              subst hxe
              obtain ⟨p0, _⟩ := HC1.out _ (Below.refl _ _)
              obtain ⟨q0, _⟩ := HC2.out _ (Below.refl _ _)
              have HY := Lib.hid hy
              clear hx1 hxm1 hy hym
              by_cases hle : x1.1.1 ≤ y.1.1
              · have HF : Hid (decide (RightD (xs.map (·.1)) self room) = false) := decide_eq_false (ill_right HX.out (.inr ⟨k, y, hkl, HY.out, hle⟩))
                go_wp2
                go_quiet (fail)
                have B2 := Lib.hid (dN B.out nq)
                generalize World.drewN _ nq = w2 at *
                go_wp2
                go_ret
                exact ⟨ret_bool HF.out.symm, B2.out⟩
              · replace hle : y.1.1 < x1.1.1 := by omega
                have HK2 : Hid (∀ i z, i < k + 1 → xs[i]? = some z → z.1.1 < x1.1.1) := fun i z hi hz => by
                  rcases Nat.lt_or_ge i k with h1 | h1
                  · exact HK.out i z h1 hz
                  · obtain rfl : i = k := by omega
                    have h2 := HY.out
                    rw [hz] at h2; injection h2 with h2; rw [h2]; exact hle
                go_wp2
                go_quiet (fail)
                have B2 := Lib.hid (dN B.out nq)
                generalize World.drewN _ nq = w2 at *
                go_wp2
                go_roundw
                case rel => exact ⟨k + 1, by omega, by go_num, HK2, B2⟩
                case measure => simp [intOf]; omega
            · obtain rfl : k = j := by omega
              have HB2 : Hid (WellX xs self (k + 1)) := fun i z hi hz => by
                rcases Nat.lt_or_ge i k with h1 | h1
                · exact HB.out i z h1 hz
                · obtain rfl : i = k := by omega
                  have h2 := HX.out
                  rw [hz] at h2; injection h2 with h2
                  subst h2
                  exact ⟨HE.out, HK.out⟩
              go_wp2
              go_roundw
              case rel => exact ⟨k + 1, by omega, by go_num, HB2, B⟩
              case measure => simp [intOf]; omega
    · obtain rfl : j = n := by omega
      have hW := HB.out
      rw [HL.out] at hW
      have HF : Hid (decide (RightD (xs.map (·.1)) self room) = decide (0 ≤ room ∧ (j : Int) ≤ room)) := by
        unfold Hid
        rw [decide_eq_decide, HL.out]
        exact well_right hW
      clear hW
      by_cases hr : 0 ≤ room
      · by_cases hr2 : (j : Int) ≤ room
        · have HG : Hid (decide (RightD (xs.map (·.1)) self room) = true) := by unfold Hid; rw [HF.out]; exact decide_eq_true ⟨hr, hr2⟩
          go_wp2
          go_ret
          exact ⟨ret_bool (by first | (rw [HG.out]; done) | (rw [HG.out]; simp; done) | (rw [HG.out]; simp; omega)), B.out⟩
        · have HG : Hid (decide (RightD (xs.map (·.1)) self room) = false) := by unfold Hid; rw [HF.out]; exact decide_eq_false (fun h => hr2 h.2)
          replace hr2 : room < (j : Int) := by omega
          go_wp2
          go_ret
          exact ⟨ret_bool (by first | (rw [HG.out]; done) | (rw [HG.out]; simp; done) | (rw [HG.out]; simp; omega)), B.out⟩
      · have HG : Hid (decide (RightD (xs.map (·.1)) self room) = false) := by unfold Hid; rw [HF.out]; exact decide_eq_false (fun h => hr h.1)
        replace hr : room < 0 := by omega
        go_wp2
        go_ret
        exact ⟨ret_bool HG.out.symm, B.out⟩
end Go.Proofs.Ytlkjlmmdllkdcaa
