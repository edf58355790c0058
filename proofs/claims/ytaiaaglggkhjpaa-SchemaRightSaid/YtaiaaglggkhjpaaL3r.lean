/- Layer 3: the walk of SchemaRight. -/
import Derived.Test.YtaiaaglggkhjpaaSch12
namespace Go.Proofs.Ytaiaaglggkhjpaa
open Go.RowKit
set_option linter.unusedVariables false
def lenB (ps : List (Int × Int)) : Bool := decide (1 ≤ ps.length) && decide (ps.length ≤ 4)
def allB (ps : List (Int × Int)) (j : Nat) : Bool := lenB ps && (ps.take j).all okB
theorem allB_zero (ps : List (Int × Int)) : allB ps 0 = lenB ps := by simp [allB]
theorem allB_all (ps : List (Int × Int)) : allB ps ps.length = rightB ps := by simp [allB, lenB, rightB]
theorem allB_succ {ps : List (Int × Int)} {j : Nat} {p : Int × Int} (hp : ps[j]? = some p) : allB ps (j + 1) = (allB ps j && okB p) := by
  simp [allB, List.take_add_one, hp, Bool.and_assoc]
theorem right_one (p : Int × Int) : rightB [p] = okB p := by simp [rightB]
theorem right_take {ps : List (Int × Int)} (h : rightB ps = true) (k : Nat) : rightB (ps.take k) = decide (0 < k) := by
  simp only [rightB, Bool.and_eq_true, decide_eq_true_eq] at h
  obtain ⟨⟨h1, h2⟩, h3⟩ := h
  have h4 : (ps.take k).all okB = true := List.all_eq_true.2 fun q hq => List.all_eq_true.1 h3 q (List.mem_of_mem_take hq)
  simp only [rightB, h4, Bool.and_true, List.length_take]
  rw [Bool.eq_iff_iff]
  simp only [Bool.and_eq_true, decide_eq_true_eq]
  omega
theorem right_of {A : Option Addr} {n c k : Nat} {ps : List (Int × Int)} {w : World} {b : Bool} (h : Sp w k A n c ps) (hk : k ≤ w.heap.size) (hb : rightB ps = b) :
    Calls Try.prog 10 #[.slice A n c] w fun e w' => e = .returned (.bool b) ∧ Below w.heap.size w w' := by
  subst hb; exact right_any A n c k ps w h hk
theorem sright_walk (A : Option Addr) (n c : Nat) (ps : List (Int × Int)) (at_ : Int) (w : World) (h : Sp w w.heap.size A n c ps) (ha : 0 ≤ at_ ∧ at_ ≤ 255) :
    Calls Try.prog 7 #[.slice A n c, .int .u8 at_] w fun e w' => e = .returned (.bool true) ∧ Below w.heap.size w w' := by
  have HL : Hid (n = ps.length) := sp_len h
  have hm := h.max
  have hc := h.cap
  unfold maxLen at hm
  have HS : Hid (Sp w w.heap.size A n c ps) := h
  clear h
  obtain ⟨ha0, ha1⟩ := ha
  by_cases h8 : 8 < n
  · go_enter Try.func7, Try.ntmps7
    go_wp2_with fail
    refine (awake_any w).mono ?_
    rintro e w' ⟨rfl, b⟩
    go_wp2
    go_ret
    exact ⟨rfl, b⟩
  have hcases : ∃ lb, Hid (lenB ps = lb) ∧ ((n < 1 ∧ lb = false) ∨ (1 ≤ n ∧ n ≤ 4 ∧ lb = true) ∨ (4 < n ∧ lb = false)) := ⟨_, rfl, by
    unfold lenB
    rw [← HL.out]
    rcases Nat.lt_or_ge n 1 with h | h
    · exact .inl ⟨h, by simp; omega⟩
    · rcases Nat.lt_or_ge 4 n with h4 | h4
      · exact .inr (.inr ⟨h4, by simp; omega⟩)
      · exact .inr (.inl ⟨h, h4, by simp; omega⟩)⟩
  obtain ⟨lb, HB, h1⟩ := hcases
  rcases h1 with ⟨hn1, rfl⟩ | ⟨hn1, hn4, rfl⟩ | ⟨hn4, rfl⟩
  case inl =>
    go_enter Try.func7, Try.ntmps7
    go_wp2_with fail
    go_loopw [5, 24] (fun v i wr => ∃ j : Nat, j ≤ n ∧ i = .int .i64 j ∧ v = .bool (allB ps j) ∧ Below w.heap.size w wr) (fun _ i _ => n - (intOf i).toNat)
    case atStart => exact ⟨0, Nat.zero_le _, rfl, by rw [allB_zero, HB.out]; first | done | rfl | (congr 1; simp; omega), Below.refl _ _⟩
    case round =>
      obtain ⟨j, hj, rfl, rfl, b1⟩ := hrel
      rcases Nat.lt_or_ge j n with hlt | hlt
      · exact absurd hlt (by omega)
      · obtain rfl : n = j := by omega
        have HR : Hid (allB ps n = rightB ps) := by unfold Hid; rw [HL.out]; exact allB_all ps
        have HK : ∃ kk : Nat, at_ % ((n : Int) + 1) = (kk : Int) ∧ kk ≤ n := by
          have h1 := Int.emod_nonneg at_ (show ((n : Int) + 1) ≠ 0 by omega)
          have h2 := Int.emod_lt_of_pos at_ (show (0 : Int) < (n : Int) + 1 by omega)
          exact ⟨(at_ % ((n : Int) + 1)).toNat, by omega, by omega⟩
        obtain ⟨kk, hkk, hkn⟩ := HK
        have S3 : Hid (Sp wr wr.heap.size A n c ps) := HS.out.next b1
        cases hr : rightB ps with
        | false =>
          rw [show allB ps n = false from HR.out.trans hr]
          have HQ := Lib.hid hr
          clear hr HR
          go_wp2_with fail
          refine (right_of S3.out (Nat.le_refl _) HQ.out).mono ?_
          rintro r w6 ⟨rfl, b6⟩
          go_wp2_with fail
          refine (right_of (A := none) (n := 0) (c := 0) (k := 0) (ps := []) (w := w6) (Sn.nil rfl) (Nat.zero_le _) (b := false) (by decide)).mono ?_
          rintro r w7 ⟨rfl, b7⟩
          go_wp2_with fail
          refine (awake_any w7).mono ?_
          rintro r w8 ⟨rfl, b8⟩
          go_wp2
          go_ret
          exact ⟨rfl, thn (thn (thn b1 b6) b7) b8⟩
        | true =>
          rw [show allB ps n = true from HR.out.trans hr]
          have HQ := Lib.hid hr
          clear hr HR
          have e1 := fun w' : World => run_upto (P := Try.prog) (w := w') (A := A) (n := n) (c := c) (hi := kk) 23 44 Try.underlying23 (by kernel_rfl) 2 (fun w' => by kernel_rfl) .i64 (kk : Int) rfl (by omega)
          by_cases hk0 : 0 < kk
          · go_wp2_with fail
            refine (right_of S3.out (Nat.le_refl _) HQ.out).mono ?_
            rintro r w6 ⟨rfl, b6⟩
            go_wp2_with fail
            refine (right_of (b := true) (sp_upto (S3.out.next b6) hkn) (Nat.le_refl _) ((right_take HQ.out kk).trans (decide_eq_true hk0))).mono ?_
            rintro r w6' ⟨rfl, b6'⟩
            go_wp2_with fail
            refine (right_of (A := none) (n := 0) (c := 0) (k := 0) (ps := []) (w := w6') (Sn.nil rfl) (Nat.zero_le _) (b := false) (by decide)).mono ?_
            rintro r w7 ⟨rfl, b7⟩
            go_wp2_with fail
            refine (awake_any w7).mono ?_
            rintro r w8 ⟨rfl, b8⟩
            go_wp2
            go_ret
            exact ⟨rfl, thn (thn (thn (thn b1 b6) b6') b7) b8⟩
          · go_wp2_with fail
            refine (right_of S3.out (Nat.le_refl _) HQ.out).mono ?_
            rintro r w6 ⟨rfl, b6⟩
            go_wp2_with fail
            refine (right_of (b := false) (sp_upto (S3.out.next b6) hkn) (Nat.le_refl _) ((right_take HQ.out kk).trans (decide_eq_false hk0))).mono ?_
            rintro r w6' ⟨rfl, b6'⟩
            go_wp2_with fail
            refine (right_of (A := none) (n := 0) (c := 0) (k := 0) (ps := []) (w := w6') (Sn.nil rfl) (Nat.zero_le _) (b := false) (by decide)).mono ?_
            rintro r w7 ⟨rfl, b7⟩
            go_wp2_with fail
            refine (awake_any w7).mono ?_
            rintro r w8 ⟨rfl, b8⟩
            go_wp2
            go_ret
            exact ⟨rfl, thn (thn (thn (thn b1 b6) b6') b7) b8⟩
  all_goals
    go_enter Try.func7, Try.ntmps7
    go_wp2_with fail
    go_loopw [5, 24] (fun v i wr => ∃ j : Nat, j ≤ n ∧ i = .int .i64 j ∧ v = .bool (allB ps j) ∧ Below w.heap.size w wr) (fun _ i _ => n - (intOf i).toNat)
    case atStart => exact ⟨0, Nat.zero_le _, rfl, by rw [allB_zero, HB.out]; first | done | rfl | (congr 1; simp; omega), Below.refl _ _⟩
    case round =>
      obtain ⟨j, hj, rfl, rfl, b1⟩ := hrel
      rcases Nat.lt_or_ge j n with hlt | hlt
      · obtain ⟨b, off, p, rfl, hb, hp, c1, c2⟩ := sp_at (HS.out.next b1) hlt
        have HP : Hid (allB ps (j + 1) = (allB ps j && okB p)) := allB_succ hp
        have hsz := b1.size
        clear hp
        have s1 := Sn.lit_at (wr.alloc (.cells #[.int .i32 p.1, .int .i32 p.2] 44)) #[.int .i32 p.1, .int .i32 p.2] 44 (0, 0) 2 1 (wr.heap.size + 1) (by simp) rfl (by decide)
        have S1 : Hid (Sp ((wr.alloc (.cells #[.int .i32 p.1, .int .i32 p.2] 44)).alloc (.cells #[.int .i32 p.1, .int .i32 p.2] 44)) (wr.heap.size + 1 + 1) (some ⟨wr.heap.size + 1, 0, none⟩) 1 1 [p]) := s1
        have hz : wr.heap.size + 1 + 1 ≤ ((wr.alloc (.cells #[.int .i32 p.1, .int .i32 p.2] 44)).alloc (.cells #[.int .i32 p.1, .int .i32 p.2] 44)).heap.size := by simp
        have d0 : ((wr.alloc (.cells #[.int .i32 p.1, .int .i32 p.2] 44)).alloc (.cells #[.int .i32 p.1, .int .i32 p.2] 44)).cell? ⟨wr.heap.size, 0, none⟩ = some (.int .i32 p.1) := by rw [World.cell?_alloc_lt _ _ _ (by simp)]; simp
        have d1 : ((wr.alloc (.cells #[.int .i32 p.1, .int .i32 p.2] 44)).alloc (.cells #[.int .i32 p.1, .int .i32 p.2] 44)).cell? ⟨wr.heap.size, 1, none⟩ = some (.int .i32 p.2) := by rw [World.cell?_alloc_lt _ _ _ (by simp)]; simp
        have b2 := b1.trans ((Go.Joins.below_alloc2 wr (.cells #[.int .i32 p.1, .int .i32 p.2] 44) (.cells #[.int .i32 p.1, .int .i32 p.2] 44)).mono hsz)
        have D0 := Lib.hid d0
        have D1 := Lib.hid d1
        have HZ := Lib.hid hz
        clear s1 d0 d1 hz
        by_cases hle : p.1 ≤ p.2
        · have HO : Hid (rightB [p] = true) := by unfold Hid; rw [right_one]; exact decide_eq_true hle
          have HE : Hid (allB ps (j + 1) = allB ps j) := by unfold Hid; rw [HP.out, show okB p = true from decide_eq_true hle, Bool.and_true]
          clear HP
          go_wp2_with fail
          generalize (wr.alloc _).alloc _ = wa at *
          refine (right_of S1.out HZ.out HO.out).mono ?_
          have hz := HZ.out
          rintro r w6 ⟨rfl, b6⟩
          have e0 : w6.cell? ⟨wr.heap.size, 0, none⟩ = some (.int .i32 p.1) := (b6.cell (p := ⟨wr.heap.size, 0, none⟩) (by show wr.heap.size < _; omega)).trans D0.out
          have e1 : w6.cell? ⟨wr.heap.size, 1, none⟩ = some (.int .i32 p.2) := (b6.cell (p := ⟨wr.heap.size, 1, none⟩) (by show wr.heap.size < _; omega)).trans D1.out
          have b7 := b2.trans (b6.mono b2.size)
          clear D0 D1 S1 HZ
          cases ha : allB ps j with
          | false =>
            have HA : Hid (allB ps (j + 1) = false) := HE.out.trans ha
            clear ha
            go_wp2_with fail
            go_roundw
            case rel => exact ⟨j + 1, by omega, by go_num, by rw [HA.out]; first | done | rfl | (congr 1; simp; omega), b7⟩
            case measure => simp [intOf]; omega
          | true =>
            have HA : Hid (allB ps (j + 1) = true) := HE.out.trans ha
            clear ha
            go_wp2_with fail
            go_roundw
            case rel => exact ⟨j + 1, by omega, by go_num, by rw [HA.out]; first | done | rfl | (congr 1; simp; omega), b7⟩
            case measure => simp [intOf]; omega
        · have HO : Hid (rightB [p] = false) := by unfold Hid; rw [right_one]; exact decide_eq_false hle
          have HA : Hid (allB ps (j + 1) = false) := by unfold Hid; rw [HP.out, show okB p = false from decide_eq_false hle, Bool.and_false]
          clear HP
          go_wp2_with fail
          generalize (wr.alloc _).alloc _ = wa at *
          refine (right_of S1.out HZ.out HO.out).mono ?_
          have hz := HZ.out
          rintro r w6 ⟨rfl, b6⟩
          have e0 : w6.cell? ⟨wr.heap.size, 0, none⟩ = some (.int .i32 p.1) := (b6.cell (p := ⟨wr.heap.size, 0, none⟩) (by show wr.heap.size < _; omega)).trans D0.out
          have e1 : w6.cell? ⟨wr.heap.size, 1, none⟩ = some (.int .i32 p.2) := (b6.cell (p := ⟨wr.heap.size, 1, none⟩) (by show wr.heap.size < _; omega)).trans D1.out
          have b7 := b2.trans (b6.mono b2.size)
          clear D0 D1 S1 HZ
          cases ha : allB ps j with
          | false =>
            clear ha
            go_wp2_with fail
            go_roundw
            case rel => exact ⟨j + 1, by omega, by go_num, by rw [HA.out]; first | done | rfl | (congr 1; simp; omega), b7⟩
            case measure => simp [intOf]; omega
          | true =>
            clear ha
            go_wp2_with fail
            go_roundw
            case rel => exact ⟨j + 1, by omega, by go_num, by rw [HA.out]; first | done | rfl | (congr 1; simp; omega), b7⟩
            case measure => simp [intOf]; omega
      · obtain rfl : n = j := by omega
        have HR : Hid (allB ps n = rightB ps) := by unfold Hid; rw [HL.out]; exact allB_all ps
        have HK : ∃ kk : Nat, at_ % ((n : Int) + 1) = (kk : Int) ∧ kk ≤ n := by
          have h1 := Int.emod_nonneg at_ (show ((n : Int) + 1) ≠ 0 by omega)
          have h2 := Int.emod_lt_of_pos at_ (show (0 : Int) < (n : Int) + 1 by omega)
          exact ⟨(at_ % ((n : Int) + 1)).toNat, by omega, by omega⟩
        obtain ⟨kk, hkk, hkn⟩ := HK
        have S3 : Hid (Sp wr wr.heap.size A n c ps) := HS.out.next b1
        cases hr : rightB ps with
        | false =>
          rw [show allB ps n = false from HR.out.trans hr]
          have HQ := Lib.hid hr
          clear hr HR
          go_wp2_with fail
          refine (right_of S3.out (Nat.le_refl _) HQ.out).mono ?_
          rintro r w6 ⟨rfl, b6⟩
          go_wp2_with fail
          refine (right_of (A := none) (n := 0) (c := 0) (k := 0) (ps := []) (w := w6) (Sn.nil rfl) (Nat.zero_le _) (b := false) (by decide)).mono ?_
          rintro r w7 ⟨rfl, b7⟩
          go_wp2_with fail
          refine (awake_any w7).mono ?_
          rintro r w8 ⟨rfl, b8⟩
          go_wp2
          go_ret
          exact ⟨rfl, thn (thn (thn b1 b6) b7) b8⟩
        | true =>
          rw [show allB ps n = true from HR.out.trans hr]
          have HQ := Lib.hid hr
          clear hr HR
          have e1 := fun w' : World => run_upto (P := Try.prog) (w := w') (A := A) (n := n) (c := c) (hi := kk) 23 44 Try.underlying23 (by kernel_rfl) 2 (fun w' => by kernel_rfl) .i64 (kk : Int) rfl (by omega)
          by_cases hk0 : 0 < kk
          · go_wp2_with fail
            refine (right_of S3.out (Nat.le_refl _) HQ.out).mono ?_
            rintro r w6 ⟨rfl, b6⟩
            go_wp2_with fail
            refine (right_of (b := true) (sp_upto (S3.out.next b6) hkn) (Nat.le_refl _) ((right_take HQ.out kk).trans (decide_eq_true hk0))).mono ?_
            rintro r w6' ⟨rfl, b6'⟩
            go_wp2_with fail
            refine (right_of (A := none) (n := 0) (c := 0) (k := 0) (ps := []) (w := w6') (Sn.nil rfl) (Nat.zero_le _) (b := false) (by decide)).mono ?_
            rintro r w7 ⟨rfl, b7⟩
            go_wp2_with fail
            refine (awake_any w7).mono ?_
            rintro r w8 ⟨rfl, b8⟩
            go_wp2
            go_ret
            exact ⟨rfl, thn (thn (thn (thn b1 b6) b6') b7) b8⟩
          · go_wp2_with fail
            refine (right_of S3.out (Nat.le_refl _) HQ.out).mono ?_
            rintro r w6 ⟨rfl, b6⟩
            go_wp2_with fail
            refine (right_of (b := false) (sp_upto (S3.out.next b6) hkn) (Nat.le_refl _) ((right_take HQ.out kk).trans (decide_eq_false hk0))).mono ?_
            rintro r w6' ⟨rfl, b6'⟩
            go_wp2_with fail
            refine (right_of (A := none) (n := 0) (c := 0) (k := 0) (ps := []) (w := w6') (Sn.nil rfl) (Nat.zero_le _) (b := false) (by decide)).mono ?_
            rintro r w7 ⟨rfl, b7⟩
            go_wp2_with fail
            refine (awake_any w7).mono ?_
            rintro r w8 ⟨rfl, b8⟩
            go_wp2
            go_ret
            exact ⟨rfl, thn (thn (thn (thn b1 b6) b6') b7) b8⟩
end Go.Proofs.Ytaiaaglggkhjpaa
