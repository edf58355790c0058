/- Layer 7: Rising, Same; their references. -/
import Derived.Test.YtdpcknfplognmaaIe
namespace Go.Proofs.Ytdpcknfplognmaa
open Go.RowKit
set_option linter.unusedVariables false

theorem sd_cells {w : World} {k : Nat} {A : Option Addr} {n c : Nat} {ps : List Id3} (h : Sd w k A n c ps) {j : Nat} (hj : j < n) : ∃ b off p, A = some ⟨b, off, none⟩ ∧ b < k ∧ ps[j]? = some p ∧ Hid (∀ w', Below k w w' → w'.cell? ⟨b, off + j * 3, none⟩ = some (.int .u8 p.1) ∧ w'.cell? ⟨b, off + j * 3 + 1, none⟩ = some (.int .u16 p.2.1) ∧ w'.cell? ⟨b, off + j * 3 + 2, none⟩ = some (.int .u32 p.2.2)) := by
  obtain ⟨b, off, p, e, hb, hp, c0, c1, c2⟩ := sd_at h hj
  exact ⟨b, off, p, e, hb, hp, fun w' hw => ⟨(hw.cell (p := ⟨b, _, none⟩) hb).trans c0, (hw.cell (p := ⟨b, _, none⟩) hb).trans c1, (hw.cell (p := ⟨b, _, none⟩) hb).trans c2⟩⟩
theorem rise_upto {l : List Id3} {i : Nat} (h : Rise (l.take (i + 1))) {a b : Id3} (ha : l[i]? = some a) (hb : l[i + 1]? = some b) (hl : lessB a b = true) : Rise (l.take (i + 2)) := by
  refine rise_near fun k h1 h2 => ?_
  rw [List.length_take] at h2
  by_cases e : k = i + 1
  · subst e
    refine ⟨a, b, ?_, ?_, hl⟩
    · rw [List.getElem?_take, if_pos (by omega)]; simpa using ha
    · rw [List.getElem?_take, if_pos (by omega)]; exact hb
  · have hk : k < (l.take (i + 1)).length := by rw [List.length_take]; omega
    have hk' : k - 1 < (l.take (i + 1)).length := by omega
    have := List.pairwise_iff_getElem.1 h (k - 1) k hk' hk (by omega)
    refine ⟨_, _, ?_, ?_, this⟩
    · rw [List.getElem?_take, if_pos (by omega), List.getElem_take]; exact List.getElem?_eq_getElem _
    · rw [List.getElem?_take, if_pos (by omega), List.getElem_take]; exact List.getElem?_eq_getElem _
theorem rise_one (l : List Id3) : Rise (l.take 1) := by
  cases l with
  | nil => exact List.Pairwise.nil
  | cons x t => simp
theorem rising_any (A : Option Addr) (n c : Nat) (l : List Id3) (w : World) (h : Sd w w.heap.size A n c l) :
    Calls Try.prog 15 #[.slice A n c] w fun e w' => e = .returned (.bool (decide (Rise l))) ∧ Below w.heap.size w w' := by
  have HL : Hid (n = l.length) := sd_len h
  have hm := h.max
  have hc := h.cap
  unfold maxLen at hm
  have HS := Lib.hid h
  clear h
  go_enter Try.func15, Try.ntmps15
  go_wp2
  go_loopw [3] (fun v wr => ∃ i : Nat, i ≤ n ∧ v = .int .i64 ((i : Int) + 1) ∧ Hid (Rise (l.take (i + 1))) ∧ Hid (Below w.heap.size w wr)) (fun v _ => n + 1 - (intOf v).toNat)
  case atStart => exact ⟨0, Nat.zero_le _, rfl, rise_one l, Below.refl _ _⟩
  case round =>
    obtain ⟨i, hi, rfl, HR, b1⟩ := hrel
    have i0 : (0 : Int) ≤ (i : Int) := by omega
    by_cases hlt : i + 1 < n
    · have i1 : (i : Int) + 1 < (n : Int) := by omega
      have i2 : (i : Int) < (n : Int) := by omega
      obtain ⟨b, off, y, rfl, hb, hy, CY⟩ := sd_cells (HS.out.next b1.out) (j := i) (by omega)
      obtain ⟨b', off', z, e, hb', hz, CZ⟩ := sd_cells (HS.out.next b1.out) (j := i + 1) hlt
      injection e with e
      injection e with e1 e2
      subst e1 e2
      have HY := Lib.hid hy
      have HZ := Lib.hid hz
      clear hy hz
      obtain ⟨q, HQ⟩ : ∃ q, Hid (lessB y z = q) := ⟨_, rfl⟩
      go_wp2
      refine wp_region_typed 11 [(10, .val (.slice (some ⟨b, off, none⟩) n c)), (11, .val (.int .i64 ((i : Int) + 1))), (12, .val (.int .i64 (i : Int))), (13, .val (.pointer (some ⟨b, off + i * 3, none⟩))), (14, .val (.agg #[.int .u8 y.1, .int .u16 y.2.1, .int .u32 y.2.2])), (15, .val (.slice (some ⟨b, off, none⟩) n c)), (16, .val (.int .i64 ((i : Int) + 1))), (17, .val (.pointer (some ⟨b, off + (i + 1) * 3, none⟩))), (18, .val (.agg #[.int .u8 z.1, .int .u16 z.2.1, .int .u32 z.2.2])), (19, .val (.bool q)), (20, .val (.bool (!q)))]
        [[], [], [11], [10, 12], [13], [], [], [15, 16], [17], [14, 18], [19]] (by kernel_rfl) (by kernel_rfl) ?_ ?_
      rotate_left
      · intro w9 hb
        simp only [List.take_succ_cons, List.take_zero, List.drop_succ_cons, List.drop_zero]
        refine over_ds (ds := [10, 11, 12, 13, 14, 15, 16, 17, 18, 19, 20]) (by kernel_rfl) ?_
        refine over_some (ds1 := [10, 11, 12, 13, 14, 15, 16, 17, 18, 19, 20]) (ds2 := []) [(.slice (some ⟨b, off, none⟩) n c), (.int .i64 ((i : Int) + 1)), (.int .i64 (i : Int)), (.pointer (some ⟨b, off + i * 3, none⟩)), (.agg #[.int .u8 y.1, .int .u16 y.2.1, .int .u32 y.2.2]), (.slice (some ⟨b, off, none⟩) n c), (.int .i64 ((i : Int) + 1)), (.pointer (some ⟨b, off + (i + 1) * 3, none⟩)), (.agg #[.int .u8 z.1, .int .u16 z.2.1, .int .u32 z.2.2]), (.bool q), (.bool (!q))] (by kernel_rfl) ?_
        refine over_nil ?_
        simp only [putAll, put_lit, List.set_cons_succ, List.set_cons_zero]
        have B3 := Lib.hid (thn b1.out hb)
        clear hb
        cases q with
        | true =>
          have HR2 := Lib.hid (rise_upto HR.out HY.out HZ.out HQ.out)
          go_wp2
          go_roundw
          case rel => exact ⟨i + 1, by omega, by go_num, HR2, B3⟩
          case measure => simp [intOf]; omega
        | false =>
          have HF : Hid (decide (Rise l) = false) := decide_eq_false (rise_bad HY.out HZ.out HQ.out)
          go_wp2
          go_ret
          exact ⟨ret_bool HF.out.symm, B3.out⟩
      simp only [List.take_succ_cons, List.take_zero]
      refine ⟨?r1g0, ?r1g1, ?r1g2, ?r1g3, ?r1g4, ?r1g5, ?r1g6, ?r1g7, ?r1g8, ?r1g9, ?r1g10, trivial⟩
      case r1g0 =>
        intro w9 hb
        refine over_nil ?_
        go_wp2
        first | exact post_of (by rfl) (by rfl) (Below.refl _ _) (by rfl) | exact rfl
      case r1g1 =>
        intro w9 hb
        refine over_nil ?_
        go_wp2
        first | exact post_of (by rfl) (by rfl) (Below.refl _ _) (by rfl) | exact rfl
      case r1g2 =>
        intro w9 hb
        refine over_some (ds1 := [11]) (ds2 := []) [(.int .i64 ((i : Int) + 1))] (by kernel_rfl) ?_
        refine over_nil ?_
        simp only [putAll, put_lit, List.set_cons_succ, List.set_cons_zero]
        go_wp2
        first | exact post_of (by rfl) (by rfl) (Below.refl _ _) (by rfl) | exact rfl
      case r1g3 =>
        intro w9 hb
        refine over_some (ds1 := [10, 12]) (ds2 := []) [(.slice (some ⟨b, off, none⟩) n c), (.int .i64 (i : Int))] (by kernel_rfl) ?_
        refine over_nil ?_
        simp only [putAll, put_lit, List.set_cons_succ, List.set_cons_zero]
        go_wp2
        first | exact post_of (by rfl) (by rfl) (Below.refl _ _) (by rfl) | exact rfl
      case r1g4 =>
        intro w9 hb
        refine over_some (ds1 := [13]) (ds2 := []) [(.pointer (some ⟨b, off + i * 3, none⟩))] (by kernel_rfl) ?_
        refine over_nil ?_
        simp only [putAll, put_lit, List.set_cons_succ, List.set_cons_zero]
        obtain ⟨c0, c1, c2⟩ := CY.out w9 hb
        go_wp2
        first | exact post_of (by rfl) (by rfl) (Below.refl _ _) (by rfl) | exact rfl
      case r1g5 =>
        intro w9 hb
        refine over_nil ?_
        go_wp2
        first | exact post_of (by rfl) (by rfl) (Below.refl _ _) (by rfl) | exact rfl
      case r1g6 =>
        intro w9 hb
        refine over_nil ?_
        go_wp2
        first | exact post_of (by rfl) (by rfl) (Below.refl _ _) (by rfl) | exact rfl
      case r1g7 =>
        intro w9 hb
        refine over_some (ds1 := [15, 16]) (ds2 := []) [(.slice (some ⟨b, off, none⟩) n c), (.int .i64 ((i : Int) + 1))] (by kernel_rfl) ?_
        refine over_nil ?_
        simp only [putAll, put_lit, List.set_cons_succ, List.set_cons_zero]
        go_wp2
        first | exact post_of (by rfl) (by rfl) (Below.refl _ _) (by rfl) | exact rfl
      case r1g8 =>
        intro w9 hb
        refine over_some (ds1 := [17]) (ds2 := []) [(.pointer (some ⟨b, off + (i + 1) * 3, none⟩))] (by kernel_rfl) ?_
        refine over_nil ?_
        simp only [putAll, put_lit, List.set_cons_succ, List.set_cons_zero]
        obtain ⟨c0, c1, c2⟩ := CZ.out w9 hb
        go_wp2
        first | exact post_of (by rfl) (by rfl) (Below.refl _ _) (by rfl) | exact rfl
      case r1g9 =>
        intro w9 hb
        refine over_some (ds1 := [14, 18]) (ds2 := []) [(.agg #[.int .u8 y.1, .int .u16 y.2.1, .int .u32 y.2.2]), (.agg #[.int .u8 z.1, .int .u16 z.2.1, .int .u32 z.2.2])] (by kernel_rfl) ?_
        refine over_nil ?_
        simp only [putAll, put_lit, List.set_cons_succ, List.set_cons_zero]
        go_wp2_with fail
        have hc2 := less_any y z w9
        rw [HQ.out] at hc2
        refine hc2.mono ?_
        rintro e w8 ⟨rfl, b6⟩
        go_wp2
        exact post_of (by rfl) (by rfl) b6 (by rfl)
      case r1g10 =>
        intro w9 hb
        refine over_some (ds1 := [19]) (ds2 := []) [(.bool q)] (by kernel_rfl) ?_
        refine over_nil ?_
        simp only [putAll, put_lit, List.set_cons_succ, List.set_cons_zero]
        go_wp2
        first | exact post_of (by rfl) (by rfl) (Below.refl _ _) (by rfl) | exact rfl
    · have HF : Hid (decide (Rise l) = true) := decide_eq_true (by have := HR.out; rwa [List.take_of_length_le (by rw [← HL.out]; omega)] at this)
      have i1 : (n : Int) ≤ (i : Int) + 1 := by omega
      go_wp2
      go_ret
      exact ⟨ret_bool HF.out.symm, b1.out⟩
theorem refRising_any (A : Option Addr) (n c : Nat) (l : List Id3) (w : World) (h : Sd w w.heap.size A n c l) :
    Calls Try.prog 16 #[.slice A n c] w fun e w' => e = .returned (.bool (decide (Rise l))) ∧ Below w.heap.size w w' := by
  have HL : Hid (n = l.length) := sd_len h
  have hm := h.max
  have hc := h.cap
  unfold maxLen at hm
  have HS := Lib.hid h
  clear h
  go_enter Try.func16, Try.ntmps16
  go_wp2
  go_loopw [3] (fun v wr => ∃ i : Nat, i ≤ n ∧ v = .int .i64 ((i : Int) + 1) ∧ Hid (Rise (l.take (i + 1))) ∧ Hid (Below w.heap.size w wr)) (fun v _ => n + 1 - (intOf v).toNat)
  case atStart => exact ⟨0, Nat.zero_le _, rfl, rise_one l, Below.refl _ _⟩
  case round =>
    obtain ⟨i, hi, rfl, HR, b1⟩ := hrel
    have i0 : (0 : Int) ≤ (i : Int) := by omega
    by_cases hlt : i + 1 < n
    · have i1 : (i : Int) + 1 < (n : Int) := by omega
      have i2 : (i : Int) < (n : Int) := by omega
      obtain ⟨b, off, y, rfl, hb, hy, CY⟩ := sd_cells (HS.out.next b1.out) (j := i) (by omega)
      obtain ⟨b', off', z, e, hb', hz, CZ⟩ := sd_cells (HS.out.next b1.out) (j := i + 1) hlt
      injection e with e
      injection e with e1 e2
      subst e1 e2
      have HY := Lib.hid hy
      have HZ := Lib.hid hz
      clear hy hz
      obtain ⟨q, HQ⟩ : ∃ q, Hid (lessB y z = q) := ⟨_, rfl⟩
      go_wp2
      refine wp_region_typed 11 [(10, .val (.slice (some ⟨b, off, none⟩) n c)), (11, .val (.int .i64 ((i : Int) + 1))), (12, .val (.int .i64 (i : Int))), (13, .val (.pointer (some ⟨b, off + i * 3, none⟩))), (14, .val (.agg #[.int .u8 y.1, .int .u16 y.2.1, .int .u32 y.2.2])), (15, .val (.slice (some ⟨b, off, none⟩) n c)), (16, .val (.int .i64 ((i : Int) + 1))), (17, .val (.pointer (some ⟨b, off + (i + 1) * 3, none⟩))), (18, .val (.agg #[.int .u8 z.1, .int .u16 z.2.1, .int .u32 z.2.2])), (19, .val (.bool q)), (20, .val (.bool (!q)))]
        [[], [], [11], [10, 12], [13], [], [], [15, 16], [17], [14, 18], [19]] (by kernel_rfl) (by kernel_rfl) ?_ ?_
      rotate_left
      · intro w9 hb
        simp only [List.take_succ_cons, List.take_zero, List.drop_succ_cons, List.drop_zero]
        refine over_ds (ds := [10, 11, 12, 13, 14, 15, 16, 17, 18, 19, 20]) (by kernel_rfl) ?_
        refine over_some (ds1 := [10, 11, 12, 13, 14, 15, 16, 17, 18, 19, 20]) (ds2 := []) [(.slice (some ⟨b, off, none⟩) n c), (.int .i64 ((i : Int) + 1)), (.int .i64 (i : Int)), (.pointer (some ⟨b, off + i * 3, none⟩)), (.agg #[.int .u8 y.1, .int .u16 y.2.1, .int .u32 y.2.2]), (.slice (some ⟨b, off, none⟩) n c), (.int .i64 ((i : Int) + 1)), (.pointer (some ⟨b, off + (i + 1) * 3, none⟩)), (.agg #[.int .u8 z.1, .int .u16 z.2.1, .int .u32 z.2.2]), (.bool q), (.bool (!q))] (by kernel_rfl) ?_
        refine over_nil ?_
        simp only [putAll, put_lit, List.set_cons_succ, List.set_cons_zero]
        have B3 := Lib.hid (thn b1.out hb)
        clear hb
        cases q with
        | true =>
          have HR2 := Lib.hid (rise_upto HR.out HY.out HZ.out HQ.out)
          go_wp2
          go_roundw
          case rel => exact ⟨i + 1, by omega, by go_num, HR2, B3⟩
          case measure => simp [intOf]; omega
        | false =>
          have HF : Hid (decide (Rise l) = false) := decide_eq_false (rise_bad HY.out HZ.out HQ.out)
          go_wp2
          go_ret
          exact ⟨ret_bool HF.out.symm, B3.out⟩
      simp only [List.take_succ_cons, List.take_zero]
      refine ⟨?r1g0, ?r1g1, ?r1g2, ?r1g3, ?r1g4, ?r1g5, ?r1g6, ?r1g7, ?r1g8, ?r1g9, ?r1g10, trivial⟩
      case r1g0 =>
        intro w9 hb
        refine over_nil ?_
        go_wp2
        first | exact post_of (by rfl) (by rfl) (Below.refl _ _) (by rfl) | exact rfl
      case r1g1 =>
        intro w9 hb
        refine over_nil ?_
        go_wp2
        first | exact post_of (by rfl) (by rfl) (Below.refl _ _) (by rfl) | exact rfl
      case r1g2 =>
        intro w9 hb
        refine over_some (ds1 := [11]) (ds2 := []) [(.int .i64 ((i : Int) + 1))] (by kernel_rfl) ?_
        refine over_nil ?_
        simp only [putAll, put_lit, List.set_cons_succ, List.set_cons_zero]
        go_wp2
        first | exact post_of (by rfl) (by rfl) (Below.refl _ _) (by rfl) | exact rfl
      case r1g3 =>
        intro w9 hb
        refine over_some (ds1 := [10, 12]) (ds2 := []) [(.slice (some ⟨b, off, none⟩) n c), (.int .i64 (i : Int))] (by kernel_rfl) ?_
        refine over_nil ?_
        simp only [putAll, put_lit, List.set_cons_succ, List.set_cons_zero]
        go_wp2
        first | exact post_of (by rfl) (by rfl) (Below.refl _ _) (by rfl) | exact rfl
      case r1g4 =>
        intro w9 hb
        refine over_some (ds1 := [13]) (ds2 := []) [(.pointer (some ⟨b, off + i * 3, none⟩))] (by kernel_rfl) ?_
        refine over_nil ?_
        simp only [putAll, put_lit, List.set_cons_succ, List.set_cons_zero]
        obtain ⟨c0, c1, c2⟩ := CY.out w9 hb
        go_wp2
        first | exact post_of (by rfl) (by rfl) (Below.refl _ _) (by rfl) | exact rfl
      case r1g5 =>
        intro w9 hb
        refine over_nil ?_
        go_wp2
        first | exact post_of (by rfl) (by rfl) (Below.refl _ _) (by rfl) | exact rfl
      case r1g6 =>
        intro w9 hb
        refine over_nil ?_
        go_wp2
        first | exact post_of (by rfl) (by rfl) (Below.refl _ _) (by rfl) | exact rfl
      case r1g7 =>
        intro w9 hb
        refine over_some (ds1 := [15, 16]) (ds2 := []) [(.slice (some ⟨b, off, none⟩) n c), (.int .i64 ((i : Int) + 1))] (by kernel_rfl) ?_
        refine over_nil ?_
        simp only [putAll, put_lit, List.set_cons_succ, List.set_cons_zero]
        go_wp2
        first | exact post_of (by rfl) (by rfl) (Below.refl _ _) (by rfl) | exact rfl
      case r1g8 =>
        intro w9 hb
        refine over_some (ds1 := [17]) (ds2 := []) [(.pointer (some ⟨b, off + (i + 1) * 3, none⟩))] (by kernel_rfl) ?_
        refine over_nil ?_
        simp only [putAll, put_lit, List.set_cons_succ, List.set_cons_zero]
        obtain ⟨c0, c1, c2⟩ := CZ.out w9 hb
        go_wp2
        first | exact post_of (by rfl) (by rfl) (Below.refl _ _) (by rfl) | exact rfl
      case r1g9 =>
        intro w9 hb
        refine over_some (ds1 := [14, 18]) (ds2 := []) [(.agg #[.int .u8 y.1, .int .u16 y.2.1, .int .u32 y.2.2]), (.agg #[.int .u8 z.1, .int .u16 z.2.1, .int .u32 z.2.2])] (by kernel_rfl) ?_
        refine over_nil ?_
        simp only [putAll, put_lit, List.set_cons_succ, List.set_cons_zero]
        go_wp2_with fail
        have hc2 := refLess_any y z w9
        rw [HQ.out] at hc2
        refine hc2.mono ?_
        rintro e w8 ⟨rfl, b6⟩
        go_wp2
        exact post_of (by rfl) (by rfl) b6 (by rfl)
      case r1g10 =>
        intro w9 hb
        refine over_some (ds1 := [19]) (ds2 := []) [(.bool q)] (by kernel_rfl) ?_
        refine over_nil ?_
        simp only [putAll, put_lit, List.set_cons_succ, List.set_cons_zero]
        go_wp2
        first | exact post_of (by rfl) (by rfl) (Below.refl _ _) (by rfl) | exact rfl
    · have HF : Hid (decide (Rise l) = true) := decide_eq_true (by have := HR.out; rwa [List.take_of_length_le (by rw [← HL.out]; omega)] at this)
      have i1 : (n : Int) ≤ (i : Int) + 1 := by omega
      go_wp2
      go_ret
      exact ⟨ret_bool HF.out.symm, b1.out⟩
end Go.Proofs.Ytdpcknfplognmaa
