/- Layer 8: the library's table, TrailingZeros64; Has; the references Right and Has. -/
import Derived.Test.YtkdlgejkgcojkaaDoorQc
import Derived.Test.YtkdlgejkgcojkaaDoorOi
import Derived.Shelf.Spec.TrailingZeros
namespace Go.Proofs.YtkdlgejkgcojkaaDoor
open Go.RowKit
set_option linter.unusedVariables false
structure Tab (w : World) : Prop where
  at_ : TabAt 0 Lib.deBruijn64tab w
  lt : 0 < w.heap.size
theorem Tab.next {w w' : World} (h : Tab w) (hb : Below w.heap.size w w') : Tab w' := ⟨fun j hj => (hb.cell h.lt).trans (h.at_ j hj), Nat.lt_of_lt_of_le h.lt hb.size⟩
set_option maxHeartbeats 1000000 in
theorem tz_core (x k idx : Nat) (w : World) (hx0 : ((x : Int) == 0) = false)
    (key : IntKind.u64.wrap (bits BinOp.and IntKind.u64 (x : Int) (IntKind.u64.wrap (-(x : Int))) * 285870213051353865) / 288230376151711744 = (idx : Int))
    (hi : idx < 64) (hk : k < 64) (hcell : w.cell? ⟨0, idx, none⟩ = some (.int .u8 k)) :
    Calls Tryd.prog 24 #[.int .u64 x] w fun e w' => e = .returned (.int .i64 k) ∧ w = w' := by
  go_enter Tryd.func24, Tryd.ntmps24
  go_wp2_with (simp only [key])
  go_ret
  exact ⟨rfl, rfl⟩
theorem tz_any (x : Nat) (hx : x < 18446744073709551616) (w : World) (hT : Tab w) : Calls Tryd.prog 24 #[.int .u64 x] w fun e w' => e = .returned (.int .i64 (Lib.ctz 64 x)) ∧ w = w' := by
  by_cases hx0 : x = 0
  · subst hx0
    go_enter Tryd.func24, Tryd.ntmps24
    go_wp2
    go_ret
    exact ⟨rfl, rfl⟩
  · obtain ⟨hlow, hk⟩ := Lib.lowest_bit 64 x hx0 hx
    obtain ⟨hi, htab⟩ := Lib.deBruijn64_at _ hk
    have hcell := hT.at_ _ hi
    rw [htab] at hcell
    exact tz_core x _ _ w (by simp; omega) (tz64_key x _ hx hx0 hlow) hi hk hcell
theorem boxes2 (w : World) (r : Row3) (x : Id3) : Hid (RowBlk ((w.alloc (.cells #[.int .u16 r.1, .int .u32 r.2.1, .int .u64 r.2.2] 26)).alloc (.cells #[.int .u8 x.1, .int .u16 x.2.1, .int .u32 x.2.2] 28)) w.heap.size r) ∧ Hid (IdBlk ((w.alloc (.cells #[.int .u16 r.1, .int .u32 r.2.1, .int .u64 r.2.2] 26)).alloc (.cells #[.int .u8 x.1, .int .u16 x.2.1, .int .u32 x.2.2] 28)) (w.heap.size + 1) x) ∧
    Hid (Below w.heap.size w ((w.alloc (.cells #[.int .u16 r.1, .int .u32 r.2.1, .int .u64 r.2.2] 26)).alloc (.cells #[.int .u8 x.1, .int .u16 x.2.1, .int .u32 x.2.2] 28))) := by
  unfold Hid
  refine ⟨(RowBlk.new w r).next (below_lit _ _), ?_, thn (below_lit _ _) (below_lit _ _)⟩
  have := IdBlk.new (w.alloc (.cells #[.int .u16 r.1, .int .u32 r.2.1, .int .u64 r.2.2] 26)) x; simpa using this
theorem shas_any (r : Row3) (x : Id3) (w : World) (hr : rowR r) (hx : idR x) : Calls Tryd.prog 15 #[(.agg #[.int .u16 r.1, .int .u32 r.2.1, .int .u64 r.2.2]), (.agg #[.int .u8 x.1, .int .u16 x.2.1, .int .u32 x.2.2])] w fun e w' => e = .returned (.bool (hasI r x)) ∧ Below w.heap.size w w' := by
  obtain ⟨_, ⟨i0, i1⟩, n0, n1⟩ := hx
  obtain ⟨KR, KX, B⟩ := boxes2 w r x
  have HR := Lib.hid hr
  clear hr
  by_cases hi : 1 ≤ x.2.1
  · by_cases he : x.2.1 = r.1
    · have HH : Hid (hasI r x = seenI r x.2.2) := by unfold Hid hasI; rw [decide_eq_true ⟨hi, he⟩]; rfl
      rw [HH.out]
      have he' : (x.2.1 == r.1) = true := by simpa using he
      clear he
      rcases Int.lt_or_le x.2.2 1 with h | h
      · have e0 : x.2.2 = 0 := by omega
        have hs : seenI r x.2.2 = false := by rw [e0, seenI_zero]
        rw [hs]
        have hc := fun W v => told_no x.2.2 v W (by omega)
        clear e0 hs h HH
        go_enter Tryd.func15, Tryd.ntmps15
        go_upto_region 1 with fail
        generalize (w.alloc (.cells #[.int .u16 r.1, .int .u32 r.2.1, .int .u64 r.2.2] 26)).alloc (.cells #[.int .u8 x.1, .int .u16 x.2.1, .int .u32 x.2.2] 28) = w1 at *
        obtain ⟨c0, c1, c2⟩ := KR.out.cells
        obtain ⟨d0, d1, d2⟩ := KX.out.cells
        obtain ⟨g, hg⟩ : ∃ g, w.heap.size = g := ⟨_, rfl⟩
        rw [hg] at c0 c1 c2 d0 d1 d2 ⊢
        obtain ⟨g', hg'⟩ : ∃ g', g + 1 = g' := ⟨_, rfl⟩
        have ne1 : g ≠ g' := by omega
        have ne2 : g' ≠ g := by omega
        rw [hg'] at d0 d1 d2 ⊢
        clear hg'
        go_wp2_with fail
        refine (hc _ _).mono ?_
        rintro e w2 ⟨rfl, b5⟩
        go_wp2
        go_ret
        exact ⟨rfl, by rw [hg]; exact hg ▸ thn B.out b5⟩
      · have hc := fun W => told_yes x.2.2 27 (.agg #[.int .u16 r.1, .int .u32 r.2.1, .int .u64 r.2.2, .int .i64 0]) (seenI r x.2.2) W (enters_of Tryd.func27 (by kernel_rfl) rfl) h (rowseen_any r 0 x.2.2 W HR.out ⟨h, n1⟩)
        generalize seenI r x.2.2 = q at *
        go_enter Tryd.func15, Tryd.ntmps15
        go_upto_region 1 with fail
        generalize (w.alloc (.cells #[.int .u16 r.1, .int .u32 r.2.1, .int .u64 r.2.2] 26)).alloc (.cells #[.int .u8 x.1, .int .u16 x.2.1, .int .u32 x.2.2] 28) = w1 at *
        obtain ⟨c0, c1, c2⟩ := KR.out.cells
        obtain ⟨d0, d1, d2⟩ := KX.out.cells
        obtain ⟨g, hg⟩ : ∃ g, w.heap.size = g := ⟨_, rfl⟩
        rw [hg] at c0 c1 c2 d0 d1 d2 ⊢
        obtain ⟨g', hg'⟩ : ∃ g', g + 1 = g' := ⟨_, rfl⟩
        have ne1 : g ≠ g' := by omega
        have ne2 : g' ≠ g := by omega
        rw [hg'] at d0 d1 d2 ⊢
        clear hg'
        go_wp2_with fail
        refine (hc _).mono ?_
        rintro e w2 ⟨rfl, b5⟩
        go_wp2
        go_ret
        exact ⟨rfl, by rw [hg]; exact hg ▸ thn B.out b5⟩
    · have HH : Hid (hasI r x = false) := by unfold Hid hasI; rw [decide_eq_false (fun h => he h.2)]; rfl
      rw [HH.out]
      have he' : (x.2.1 == r.1) = false := by simpa using he
      clear he HH
      go_enter Tryd.func15, Tryd.ntmps15
      go_wp2
      go_ret
      exact ⟨rfl, B.out⟩
  · have HH : Hid (hasI r x = false) := by unfold Hid hasI; rw [decide_eq_false (fun h => hi h.1)]; rfl
    rw [HH.out]
    clear HH
    go_enter Tryd.func15, Tryd.ntmps15
    go_wp2
    go_ret
    exact ⟨rfl, B.out⟩
theorem refhas_any (r : Row3) (x : Id3) (w : World) (hr : rowR r) (hx : idR x) : Calls Tryd.prog 16 #[(.agg #[.int .u16 r.1, .int .u32 r.2.1, .int .u64 r.2.2]), (.agg #[.int .u8 x.1, .int .u16 x.2.1, .int .u32 x.2.2])] w fun e w' => e = .returned (.bool (hasI r x)) ∧ Below w.heap.size w w' := by
  obtain ⟨_, ⟨i0, i1⟩, n0, n1⟩ := hx
  obtain ⟨KR, KX, B⟩ := boxes2 w r x
  have HR := Lib.hid hr
  clear hr
  by_cases he : x.2.1 = r.1
  · by_cases hi : 1 ≤ x.2.1
    · have HH : Hid (hasI r x = seenI r x.2.2) := by unfold Hid hasI; rw [decide_eq_true ⟨hi, he⟩]; rfl
      rw [HH.out]
      have he' : (x.2.1 == r.1) = true := by simpa using he
      clear he
      have hc := refseen_any r x.2.2 ((w.alloc (.cells #[.int .u16 r.1, .int .u32 r.2.1, .int .u64 r.2.2] 26)).alloc (.cells #[.int .u8 x.1, .int .u16 x.2.1, .int .u32 x.2.2] 28)) HR.out ⟨n0, n1⟩
      generalize seenI r x.2.2 = q at *
      go_enter Tryd.func16, Tryd.ntmps16
      go_wp2_with fail
      refine hc.mono ?_
      rintro e w2 ⟨rfl, b5⟩
      go_wp2
      go_ret
      exact ⟨rfl, thn B.out b5⟩
    · have HH : Hid (hasI r x = false) := by unfold Hid hasI; rw [decide_eq_false (fun h => hi h.1)]; rfl
      rw [HH.out]
      have he' : (x.2.1 == r.1) = true := by simpa using he
      clear he HH
      go_enter Tryd.func16, Tryd.ntmps16
      go_wp2
      go_ret
      exact ⟨rfl, B.out⟩
  · have HH : Hid (hasI r x = false) := by unfold Hid hasI; rw [decide_eq_false (fun h => he h.2)]; rfl
    rw [HH.out]
    have he' : (x.2.1 == r.1) = false := by simpa using he
    clear he HH
    go_enter Tryd.func16, Tryd.ntmps16
    go_wp2
    go_ret
    exact ⟨rfl, B.out⟩
/-- A bit that may not be on. -/
abbrev badB (n p : Int) (b : Nat) (k : Nat) : Prop := b.testBit k = true ∧ (k = 0 ∨ n ≤ k ∨ 4294967295 < p + 1 + k)
theorem rightD_true {n p b : Int} (hp : 0 ≤ p) (hn : 1 ≤ n ∧ n ≤ 64) (hb : b.toNat < 2 ^ 64) (h : ∀ k : Nat, k < 64 → ¬ badB n p b.toNat k) : rightD n.toNat p.toNat b.toNat = true := by
  rw [right_iff]
  have hlt : ∀ i, b.toNat.testBit i = true → i < 64 := fun i hi => bits_of_lt hb hi
  refine ⟨?_, fun i hi => ?_, fun i hi => ?_⟩
  · have := h 0 (by omega)
    rcases Nat.mod_two_eq_zero_or_one b.toNat with h1 | h1
    · exact h1
    · exact absurd ⟨by simp [Nat.testBit_zero, h1], .inl rfl⟩ this
  · have := h i (hlt i hi)
    simp only [badB, hi, true_and] at this
    omega
  · have := h i (hlt i hi)
    simp only [badB, hi, true_and] at this
    omega
theorem rightD_false {n p b : Int} (hp : 0 ≤ p) (hn : 1 ≤ n ∧ n ≤ 64) {k : Nat} (h : badB n p b.toNat k) : rightD n.toNat p.toNat b.toNat = false := by
  cases hr : rightD n.toNat p.toNat b.toNat
  · rfl
  · have hR := right_iff.1 hr
    have h1 := hR.near k h.1
    have h2 := hR.fits k h.1
    have h3 := hR.even
    rcases h.2 with h4 | h4 | h4
    · subst h4
      have := h.1
      simp only [Nat.testBit_zero, decide_eq_true_eq] at this
      omega
    · omega
    · omega
set_option maxHeartbeats 1000000 in
theorem refright_any (r : Row3) (n : Int) (w : World) (hr : rowR r) : Calls Tryd.prog 9 #[(.agg #[.int .u16 r.1, .int .u32 r.2.1, .int .u64 r.2.2]), .int .i64 n] w fun e w' => e = .returned (.bool (rightI r n)) ∧ Below w.heap.size w w' := by
  obtain ⟨⟨i0, i1⟩, ⟨p0, p1⟩, b0, b1⟩ := hr
  have B := Lib.hid (below_lit w (.cells #[.int .u16 r.1, .int .u32 r.2.1, .int .u64 r.2.2] 26))
  have KR := Lib.hid (RowBlk.new w r)
  by_cases hf : 1 ≤ n ∧ n ≤ 64
  · have HF : Hid (rightI r n = if r.1 = 0 then decide (r.2.1 = 0 ∧ r.2.2 = 0) else rightD n.toNat r.2.1.toNat r.2.2.toNat) := by
      unfold Hid rightI; rw [decide_eq_true hf]; rfl
    rw [HF.out]
    have HN := Lib.hid hf
    obtain ⟨f0, f1⟩ := hf
    by_cases h0 : r.1 = 0
    · rw [if_pos h0]
      clear HF HN KR
      obtain ⟨i, p, b⟩ := r
      simp only at h0 i0 i1 p0 p1 b0 b1 B ⊢
      subst h0
      by_cases hp : p = 0
      · subst hp
        by_cases hb : b = 0
        · subst hb
          rw [decide_eq_true (show ((0 : Int) = 0 ∧ (0 : Int) = 0) from ⟨rfl, rfl⟩)]
          go_enter Tryd.func9, Tryd.ntmps9
          go_wp2
          go_ret
          exact ⟨rfl, B.out⟩
        · rw [decide_eq_false (fun h => hb h.2)]
          have hb' : (b == 0) = false := by simpa using hb
          clear hb
          go_enter Tryd.func9, Tryd.ntmps9
          go_wp2
          go_ret
          exact ⟨rfl, B.out⟩
      · rw [decide_eq_false (fun h => hp h.1)]
        · have hp' : (p == 0) = false := by simpa using hp
          clear hp
          go_enter Tryd.func9, Tryd.ntmps9
          go_wp2
          go_ret
          exact ⟨rfl, B.out⟩
    · rw [if_neg h0]
      have h0' : (r.1 == 0) = false := by simpa using h0
      clear HF h0
      have HT : Hid ((∀ k : Nat, k < 64 → ¬ badB n r.2.1 r.2.2.toNat k) → rightD n.toNat r.2.1.toNat r.2.2.toNat = true) := fun h => rightD_true p0 HN.out (by omega) h
      have HS : Hid (∀ k : Nat, badB n r.2.1 r.2.2.toNat k → rightD n.toNat r.2.1.toNat r.2.2.toNat = false) := fun k h => rightD_false p0 HN.out h
      generalize rightD n.toNat r.2.1.toNat r.2.2.toNat = q at *
      go_enter Tryd.func9, Tryd.ntmps9
      go_upto_region 1 with fail
      generalize w.alloc (.cells #[.int .u16 r.1, .int .u32 r.2.1, .int .u64 r.2.2] 26) = w1 at *
      obtain ⟨c0, c1, c2⟩ := KR.out.cells
      obtain ⟨g, hg⟩ : ∃ g, w.heap.size = g := ⟨_, rfl⟩
      rw [hg] at c0 c1 c2 ⊢
      go_wp2
      go_loopw [5] (fun j wr => ∃ k : Nat, k ≤ 64 ∧ j = .int .i64 k ∧ Hid (∀ i : Nat, i < k → ¬ badB n r.2.1 r.2.2.toNat i) ∧ wr = w1) (fun j _ => 64 - (intOf j).toNat)
      case atStart => exact ⟨0, by omega, rfl, fun i hi => absurd hi (Nat.not_lt_zero _), rfl⟩
      case round =>
        obtain ⟨k, hk, rfl, HK, rfl⟩ := hrel
        have k0 : (0 : Int) ≤ (k : Int) := by omega
        by_cases hlt : k < 64
        · have k1 : (k : Int) < 64 := by omega
          have hc := on_any r.2.2 k wr b0 b1 k0 k1
          rw [Int.toNat_natCast] at hc
          cases hq : r.2.2.toNat.testBit k with
          | false =>
            have HK2 : Hid (∀ i : Nat, i < k + 1 → ¬ badB n r.2.1 r.2.2.toNat i) := fun i hi hb => by
              rcases Nat.lt_or_ge i k with h | h
              · exact HK.out i h hb
              · obtain rfl : i = k := by omega
                have h9 := hb.1; rw [hq] at h9; cases h9
            rw [hq] at hc
            clear HK hq
            go_wp2_with fail
            refine hc.mono ?_
            rintro e _ ⟨rfl, rfl⟩
            go_wp2
            go_roundw
            case rel => exact ⟨k + 1, by omega, by go_num, HK2, trivial⟩
            case measure => simp [intOf]; omega
          | true =>
            rw [hq] at hc
            by_cases hz : k = 0
            · have HE := Lib.hid (HS.out k ⟨hq, .inl hz⟩)
              subst hz
              clear HK hq
              go_wp2_with fail
              refine hc.mono ?_
              rintro e _ ⟨rfl, rfl⟩
              go_wp2
              go_ret
              exact ⟨ret_bool HE.out.symm, by rw [hg]; exact hg ▸ B.out⟩
            · have hz' : ((k : Int) == 0) = false := by simpa using hz
              by_cases hn : n ≤ (k : Int)
              · have HE := Lib.hid (HS.out k ⟨hq, .inr (.inl hn)⟩)
                clear HK hq hz
                go_wp2_with fail
                refine hc.mono ?_
                rintro e _ ⟨rfl, rfl⟩
                go_wp2
                go_ret
                exact ⟨ret_bool HE.out.symm, by rw [hg]; exact hg ▸ B.out⟩
              · by_cases hm : 4294967295 < r.2.1 + 1 + k
                · have HE := Lib.hid (HS.out k ⟨hq, .inr (.inr hm)⟩)
                  clear HK hq hz
                  go_wp2_with fail
                  refine hc.mono ?_
                  rintro e _ ⟨rfl, rfl⟩
                  go_wp2
                  go_ret
                  exact ⟨ret_bool HE.out.symm, by rw [hg]; exact hg ▸ B.out⟩
                · have HK2 : Hid (∀ i : Nat, i < k + 1 → ¬ badB n r.2.1 r.2.2.toNat i) := fun i hi hb => by
                    rcases Nat.lt_or_ge i k with h | h
                    · exact HK.out i h hb
                    · obtain rfl : i = k := by omega
                      rcases hb.2 with h1 | h1 | h1
                      · exact hz h1
                      · exact hn h1
                      · exact hm h1
                  clear HK hq hz
                  go_wp2_with fail
                  refine hc.mono ?_
                  rintro e _ ⟨rfl, rfl⟩
                  go_wp2
                  go_roundw
                  case rel => exact ⟨k + 1, by omega, by go_num, HK2, trivial⟩
                  case measure => simp [intOf]; omega
        · obtain rfl : k = 64 := by omega
          have HE := Lib.hid (HT.out HK.out)
          go_wp2
          go_ret
          exact ⟨ret_bool HE.out.symm, by rw [hg]; exact hg ▸ B.out⟩
  · have HH : Hid (rightI r n = false) := by unfold Hid rightI; rw [decide_eq_false hf]; rfl
    rw [HH.out]
    clear HH
    by_cases h1 : n < 1
    · clear hf
      go_enter Tryd.func9, Tryd.ntmps9
      go_wp2
      go_ret
      exact ⟨rfl, B.out⟩
    · have h2 : 64 < n := by omega
      clear hf
      go_enter Tryd.func9, Tryd.ntmps9
      go_wp2
      go_ret
      exact ⟨rfl, B.out⟩
end Go.Proofs.YtkdlgejkgcojkaaDoor
