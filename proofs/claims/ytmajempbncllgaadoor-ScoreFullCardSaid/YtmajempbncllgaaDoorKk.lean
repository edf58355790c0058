/- Layer 6: score.Key, score.quarter. -/
import Derived.Test.YtmajempbncllgaaDoorKq
import Derived.Test.YtmajempbncllgaaDoorFc
import Derived.Test.YtmajempbncllgaaDoorKo
namespace Go.Proofs.YtmajempbncllgaaDoor
open Go.RowKit
set_option linter.unusedVariables false
theorem quarter_of {r x : Int × Int} {q : Int} {w : World} (hr : inR r) (hx : inR x) (hok : okF x r = true) (hq : quarF r x = q) :
    Calls Tryd.prog 30 #[(.agg #[.int .i32 r.1, .int .i32 r.2]), (.agg #[.int .i32 x.1, .int .i32 x.2])] w fun e w' => e = .returned (.int .u8 q) ∧ Below w.heap.size w w' := by
  obtain ⟨⟨hr0, hr1⟩, hr2, hr3⟩ := hr
  obtain ⟨⟨hx0, hx1⟩, hx2, hx3⟩ := hx
  have hb := quar_of hok
  rw [hq] at hb
  obtain ⟨hb0, hb1⟩ := hb
  unfold okF at hok
  simp only [Bool.and_eq_true, decide_eq_true_eq] at hok
  obtain ⟨⟨h1, h2⟩, h3⟩ := hok
  obtain ⟨m, hm⟩ : ∃ m, (x.1 + x.2) / 2 = m := ⟨_, rfl⟩
  obtain ⟨l, hl⟩ : ∃ l, r.2 - r.1 + 1 = l := ⟨_, rfl⟩
  have hl0 : 0 < l := by omega
  have hl1 : l ≤ 4294967296 := by omega
  have hl2 : (l == 0) = false := by simp; omega
  have hm0 : r.1 ≤ m := by omega
  have hm1 : m ≤ r.2 := by omega
  have hQ : Int.tdiv (4 * (m - r.1)) l = q := by
    rw [Int.tdiv_eq_ediv_of_nonneg (by omega), ← hq, ← hm, ← hl]; rfl
  have bb := Lib.hid (Go.Joins.below_alloc2 w (.cells #[.int .i32 r.1, .int .i32 r.2] 36) (.cells #[.int .i32 x.1, .int .i32 x.2] 36))
  go_enter Tryd.func30, Tryd.ntmps30
  go_wp2
  go_ret
  exact ⟨rfl, bb.out⟩
theorem right_len {ps fs : List (Int × Int)} (h : rightF ps fs = true) : fs.length = 0 ∨ fs.length = ps.length := by
  unfold rightF at h
  simp only [Bool.or_eq_true, Bool.and_eq_true, decide_eq_true_eq] at h
  exact h.imp id (fun h => h.1)
set_option maxHeartbeats 2000000 in
theorem key_any (A : Option Addr) (n c : Nat) (ps : List (Int × Int)) (A' : Option Addr) (n' c' : Nat) (fs : List (Int × Int)) (w : World) (hT : Tab w) (hr : ∀ p ∈ ps, inR p) (hs : ∀ p ∈ fs, inR p) (hR : rightF ps fs = true) (h4 : fs.length ≤ 4) (h : Sp w w.heap.size A n c ps) (h' : Sp w w.heap.size A' n' c' fs) :
    Calls Tryd.prog 14 #[.slice A n c, .slice A' n' c'] w fun e w' => e = .returned (.int .u8 (keyF ps fs)) ∧ Below w.heap.size w w' := by
  have HL := Lib.hid (sp_len h)
  have HL' := Lib.hid (sp_len h')
  have hc := rightF_any A n c ps A' n' c' fs w hT hr hs h h'
  rw [hR] at hc
  have HC := Lib.hid hc
  have hl := right_len hR
  have hn4 : n' ≤ 4 := by rw [HL'.out]; exact h4
  have hnn : n' = 0 ∨ n' = n := by rw [HL.out, HL'.out]; exact hl
  have HN : Hid (keyN ps fs n' = keyF ps fs) := by
    rcases hl with hl | hl
    · have : fs = [] := List.eq_nil_of_length_eq_zero hl
      subst this
      rw [HL'.out]; rfl
    · unfold Hid; rw [HL'.out]; exact keyN_all hl
  have HB : Hid (∀ i, i ≤ n' → 0 ≤ keyN ps fs i ∧ keyN ps fs i ≤ 255) := fun i hi => keyN_byte hR h4 i (by rw [← HL'.out]; exact hi)
  have HR := Lib.hid hR
  have HI := Lib.hid hr
  have HI' := Lib.hid hs
  have HS := Lib.hid h
  have HS' := Lib.hid h'
  have HT := Lib.hid hT
  generalize keyF ps fs = K at *
  clear hc h h' hr hs hT hR h4 hl
  go_enter Tryd.func14, Tryd.ntmps14
  go_wp2_with fail
  refine HC.out.mono ?_
  rintro e w1 ⟨rfl, b1⟩
  have B1 := Lib.hid b1
  clear b1 HC
  go_wp2
  go_loopw [5, 14] (fun v i wr => ∃ (j : Nat) (k : Int), j ≤ n' ∧ i = .int .i64 j ∧ v = .int .u8 k ∧ Hid (k = keyN ps fs j) ∧ Below w.heap.size w wr) (fun _ i _ => n' - (intOf i).toNat)
  case atStart => exact ⟨0, 0, Nat.zero_le _, rfl, rfl, rfl, B1.out⟩
  case round =>
    obtain ⟨j, k, hj, rfl, rfl, HK, b2⟩ := hrel
    have i0 : (0 : Int) ≤ (j : Int) := by omega
    by_cases hlt : j < n'
    · have hlt2 : j < n := by omega
      obtain ⟨b, off, x, rfl, hp', HX'⟩ := sp_cells (HS'.out.next b2) hlt
      obtain ⟨b', off', r, rfl, hp, HX⟩ := sp_cells (HS.out.next b2) hlt2
      have i1 : (j : Int) < (n' : Int) := by omega
      have i2 : (j : Int) < (n : Int) := by omega
      have Hx := Lib.hid (HI'.out x (List.mem_of_getElem? hp'))
      have Hr := Lib.hid (HI.out r (List.mem_of_getElem? hp))
      have Hok := Lib.hid (ok_get HR.out hp hp')
      obtain ⟨q, HQ⟩ : ∃ q, Hid (quarF r x = q) := ⟨_, rfl⟩
      have HKs : Hid (keyN ps fs (j + 1) = 4 * k + q) := by unfold Hid; rw [keyN_succ hp hp', ← HK.out, HQ.out]
      obtain ⟨hk0, hk1⟩ := HB.out j hj
      obtain ⟨hm0, hm1⟩ := HB.out (j + 1) hlt
      have hq := quar_of Hok.out
      rw [HQ.out] at hq
      obtain ⟨hq0, hq1⟩ := hq
      rw [HKs.out] at hm0 hm1
      rw [← HK.out] at hk0 hk1
      have B2 := Lib.hid b2
      have hsz := b2.size
      clear b2 hp hp'
      obtain ⟨u0, u1⟩ := HX'.out wr (Below.refl _ _)
      have b7 := below_lit wr (.cells #[.int .i32 x.1, .int .i32 x.2] 36)
      have K7 : Hid (Blk (wr.alloc (.cells #[.int .i32 x.1, .int .i32 x.2] 36)) wr.heap.size x) := Blk.lit wr x.1 x.2
      have HX2 : Hid (∀ w', Below (wr.alloc (.cells #[.int .i32 x.1, .int .i32 x.2] 36)).heap.size (wr.alloc (.cells #[.int .i32 x.1, .int .i32 x.2] 36)) w' → w'.cell? ⟨b', off' + j * 2, none⟩ = some (.int .i32 r.1) ∧ w'.cell? ⟨b', off' + j * 2 + 1, none⟩ = some (.int .i32 r.2)) := fun w' hb => HX.out w' (thn b7 hb)
      have B7 := Lib.hid (thn B2.out b7)
      have h40 : 0 ≤ 4 * k := by omega
      have h41 : 4 * k ≤ 255 := by omega
      go_wp2
      clear u0 u1 b7
      generalize wr.alloc _ = W7 at *
      generalize wr.heap.size = g7 at K7 ⊢
      refine wp_region_typed 9 [(19, .val (.int .u8 k)), (20, .val (.int .u8 (4 * k))), (21, .val (.slice (some ⟨b', off', none⟩) n c)), (22, .val (.int .i64 j)), (23, .val (.pointer (some ⟨b', off' + j * 2, none⟩))), (24, .val (.agg #[.int .i32 r.1, .int .i32 r.2])), (25, .val (.agg #[.int .i32 x.1, .int .i32 x.2])), (26, .val (.int .u8 q)), (27, .val (.int .u8 (4 * k + q)))]
        [[], [19], [], [], [21, 22], [23], [], [24, 25], [20, 26]] (by kernel_rfl) (by kernel_rfl) ?_ ?_
      rotate_left
      · intro w5 hb
        simp only [List.take_succ_cons, List.take_zero, List.drop_succ_cons, List.drop_zero]
        repeat refine over_val rfl ?_
        refine over_nil ?_
        simp only [put_lit, List.set_cons_succ, List.set_cons_zero]
        have B8 := Lib.hid (thn B7.out hb)
        clear hb
        go_wp2
        go_roundw
        case rel => exact ⟨j + 1, 4 * k + q, by omega, by go_num, rfl, HKs.out.symm, B8.out⟩
        case measure => simp [intOf]; omega
      simp only [List.take_succ_cons, List.take_zero]
      refine ⟨?g0, ?g1, ?g2, ?g3, ?g4, ?g5, ?g6, ?g7, ?g8, trivial⟩
      case g0 =>
        intro w5 hb
        repeat refine over_val rfl ?_
        refine over_nil ?_
        go_wp2
        first | exact post_of (by rfl) (by rfl) (Below.refl _ _) (by rfl) | exact post_of (by rfl) (by rfl) b6 (by rfl)
      case g1 =>
        intro w5 hb
        repeat refine over_val rfl ?_
        refine over_nil ?_
        go_wp2
        first | exact post_of (by rfl) (by rfl) (Below.refl _ _) (by rfl) | exact post_of (by rfl) (by rfl) b6 (by rfl)
      case g2 =>
        intro w5 hb
        repeat refine over_val rfl ?_
        refine over_nil ?_
        go_wp2
        first | exact post_of (by rfl) (by rfl) (Below.refl _ _) (by rfl) | exact post_of (by rfl) (by rfl) b6 (by rfl)
      case g3 =>
        intro w5 hb
        repeat refine over_val rfl ?_
        refine over_nil ?_
        go_wp2
        first | exact post_of (by rfl) (by rfl) (Below.refl _ _) (by rfl) | exact post_of (by rfl) (by rfl) b6 (by rfl)
      case g4 =>
        intro w5 hb
        repeat refine over_val rfl ?_
        refine over_nil ?_
        go_wp2
        first | exact post_of (by rfl) (by rfl) (Below.refl _ _) (by rfl) | exact post_of (by rfl) (by rfl) b6 (by rfl)
      case g5 =>
        intro w5 hb
        repeat refine over_val rfl ?_
        refine over_nil ?_
        obtain ⟨u2, u3⟩ := HX2.out w5 hb
        go_wp2
        first | exact post_of (by rfl) (by rfl) (Below.refl _ _) (by rfl) | exact post_of (by rfl) (by rfl) b6 (by rfl)
      case g6 =>
        intro w5 hb
        repeat refine over_val rfl ?_
        refine over_nil ?_
        obtain ⟨u2, u3⟩ := (K7.out.next hb).cells
        go_wp2
        first | exact post_of (by rfl) (by rfl) (Below.refl _ _) (by rfl) | exact post_of (by rfl) (by rfl) b6 (by rfl)
      case g7 =>
        intro w5 hb
        repeat refine over_val rfl ?_
        refine over_nil ?_
        go_wp2_with (go_at_call 30; go_must (refine (quarter_of Hr.out Hx.out Hok.out HQ.out).mono ?_); rintro e w6 ⟨rfl, b6⟩)
        first | exact post_of (by rfl) (by rfl) (Below.refl _ _) (by rfl) | exact post_of (by rfl) (by rfl) b6 (by rfl)
      case g8 =>
        intro w5 hb
        repeat refine over_val rfl ?_
        refine over_nil ?_
        go_wp2
        first | exact post_of (by rfl) (by rfl) (Below.refl _ _) (by rfl) | exact post_of (by rfl) (by rfl) b6 (by rfl)
    · obtain rfl : j = n' := by omega
      have i1 : ¬ (j : Int) < (j : Int) := by omega
      go_wp2
      go_ret
      exact ⟨by rw [← HN.out, ← HK.out]; rfl, b2⟩
end Go.Proofs.YtmajempbncllgaaDoor
