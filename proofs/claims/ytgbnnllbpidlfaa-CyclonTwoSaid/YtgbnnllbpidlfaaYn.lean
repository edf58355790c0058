/- Layer 10: CyclonMerge's closures. -/
import Derived.Test.YtgbnnllbpidlfaaYt
namespace Go.Proofs.Ytgbnnllbpidlfaa
open Go.RowKit
set_option linter.unusedVariables false
theorem hasN_cons (d : Dsc) (ds : List Dsc) (n : Int) : hasN (d :: ds) n = (decide (d.1 = n) || hasN ds n) := by
  rw [Bool.eq_iff_iff, hasN_iff, Bool.or_eq_true, hasN_iff, decide_eq_true_iff]
  constructor
  · rintro ⟨e, he, h⟩
    rcases List.mem_cons.1 he with rfl | he
    · exact .inl h
    · exact .inr ⟨e, he, h⟩
  · rintro (h | ⟨e, he, h⟩)
    · exact ⟨d, List.mem_cons_self, h⟩
    · exact ⟨e, List.mem_cons_of_mem _ he, h⟩
theorem dropmap {xs : List (Dsc × Hd)} {j : Nat} {x : Dsc × Hd} (hx : xs[j]? = some x) : (xs.map (·.1)).drop j = x.1 :: (xs.map (·.1)).drop (j + 1) := by
  have e : (xs.map (·.1))[j]? = some x.1 := by rw [List.getElem?_map, hx]; rfl
  rw [List.drop_eq_getElem_cons (List.getElem?_eq_some_iff.1 e).1, (List.getElem?_eq_some_iff.1 e).2]
theorem dropall {xs : List (Dsc × Hd)} {j : Nat} (h : xs.length ≤ j) : (xs.map (·.1)).drop j = [] := List.drop_of_length_le (by rw [List.length_map]; exact h)
set_option maxHeartbeats 4000000 in
set_option maxRecDepth 100000 in
theorem has_any (A : Option Addr) (n c : Nat) (xs : List (Dsc × Hd)) (node : Int) (w : World) (h : Sds w A n c xs) : Calls Try.prog 22 #[.slice A n c, .int .u8 node] w fun e w' => e = .returned (.bool (hasN (xs.map (·.1)) node)) ∧ Below w.heap.size w w' := by
  have HL : Hid (n = xs.length) := h.len
  have hm := h.max
  have hc := h.cap
  unfold maxLen at hm
  have HS := Lib.hid h
  clear h
  obtain ⟨R, HR⟩ : ∃ R : Bool, Hid (hasN ((xs.map (·.1)).drop 0) node = R) := ⟨_, rfl⟩
  rw [show hasN (xs.map (·.1)) node = R from HR.out]
  go_enter Try.func22, Try.ntmps22
  go_wp2
  go_loopw [6, 9] (fun _ i wr => ∃ j : Nat, j ≤ n ∧ i = .int .i64 j ∧ Hid (hasN ((xs.map (·.1)).drop j) node = R) ∧ Hid (Below w.heap.size w wr)) (fun _ i _ => n - (intOf i).toNat)
  case atStart => exact ⟨0, Nat.zero_le _, rfl, HR, Below.refl _ _⟩
  case round =>
    clear HR
    obtain ⟨j, hj, rfl, HR, B⟩ := hrel
    have i0 : (0 : Int) ≤ (j : Int) := by omega
    by_cases hlt : j < n
    · have i1 : (j : Int) < (n : Int) := by omega
      obtain ⟨b, off, x, rfl, hb, hx, hxm, c0, c1, c2, c3⟩ := (HS.out.next B.out).at_ hlt
      have HJ : Hid (hasN ((xs.map (·.1)).drop j) node = (decide (x.1.1 = node) || hasN ((xs.map (·.1)).drop (j + 1)) node)) := by unfold Hid; rw [dropmap hx, hasN_cons]
      have hbl := below_lit wr (.cells #[.int .u8 x.1.1, .int .u16 x.1.2.1, .int .u8 x.1.2.2.1, .slice x.2.1 x.2.2.1 x.2.2.2] 34)
      have K : Hid (DBlk (wr.alloc (.cells #[.int .u8 x.1.1, .int .u16 x.1.2.1, .int .u8 x.1.2.2.1, .slice x.2.1 x.2.2.1 x.2.2.2] 34)) wr.heap.size x.1 x.2) := DBlk.new wr x.1 x.2
      have B2 := Lib.hid (thn B.out hbl)
      clear hx hxm hb hbl B
      go_upto_region 4 with fail
      clear c0 c1 c2 c3
      generalize wr.alloc _ = w3 at *
      obtain ⟨q, hq⟩ : ∃ q, wr.heap.size = q := ⟨_, rfl⟩
      rw [hq] at K ⊢
      clear hq
      obtain ⟨p0, _, _, _⟩ := K.out.cells
      by_cases he : x.1.1 = node
      · have heb : (x.1.1 == node) = true := by simp [he]
        have HE : Hid (R = true) := by
          have h1 := HJ.out
          rw [HR.out, decide_eq_true he] at h1
          exact h1
        clear he HJ
        go_wp2
        go_ret
        exact ⟨by rw [HE.out]; rfl, B2.out⟩
      · have heb : (x.1.1 == node) = false := by simp [he]
        have HR2 : Hid (hasN ((xs.map (·.1)).drop (j + 1)) node = R) := by
          have h1 := HJ.out
          rw [HR.out, decide_eq_false he, Bool.false_or] at h1
          exact h1.symm
        clear he HJ
        go_wp2
        go_roundw
        case rel => exact ⟨j + 1, by omega, by go_num, HR2, B2⟩
        case measure => simp [intOf]; omega
    · obtain rfl : j = n := by omega
      have HE : Hid (R = false) := by
        have h1 := HR.out
        rw [dropall (by rw [← HL.out]; exact Nat.le_refl _)] at h1
        exact h1.symm
      go_wp2
      go_ret
      exact ⟨by rw [HE.out]; rfl, B.out⟩
set_option maxHeartbeats 4000000 in
set_option maxRecDepth 100000 in
theorem in1_any (A : Option Addr) (n c : Nat) (xs : List (Dsc × Hd)) (d : Dsc) (hd : Hd) (w : World) (h : Sds w A n c xs) (hF : Fl w (d, hd)) : Calls Try.prog 20 #[.slice A n c, (.agg #[.int .u8 d.1, .int .u16 d.2.1, .int .u8 d.2.2.1, .slice hd.1 hd.2.1 hd.2.2])] w fun e w' => e = .returned (.bool (decide (d ∈ xs.map (·.1)))) ∧ Below w.heap.size w w' := by
  have HL : Hid (n = xs.length) := h.len
  have hm := h.max
  have hc := h.cap
  unfold maxLen at hm
  have HS := Lib.hid h
  have HF := Lib.hid hF
  have HB0 := Lib.hid (below_lit w (.cells #[.int .u8 d.1, .int .u16 d.2.1, .int .u8 d.2.2.1, .slice hd.1 hd.2.1 hd.2.2] 34))
  have KD : Hid (DBlk (w.alloc (.cells #[.int .u8 d.1, .int .u16 d.2.1, .int .u8 d.2.2.1, .slice hd.1 hd.2.1 hd.2.2] 34)) w.heap.size d hd) := DBlk.new w d hd
  clear h hF
  obtain ⟨R, HR⟩ : ∃ R : Bool, Hid (decide (d ∈ (xs.map (·.1)).drop 0) = R) := ⟨_, rfl⟩
  rw [show decide (d ∈ xs.map (·.1)) = R from HR.out]
  go_enter Try.func20, Try.ntmps20
  go_upto_region 1 with fail
  generalize w.alloc _ = w1 at *
  obtain ⟨g, hg⟩ : ∃ q, w.heap.size = q := ⟨_, rfl⟩
  rw [hg] at KD ⊢
  clear hg
  go_wp2
  go_loopw [6, 9] (fun _ i wr => ∃ j : Nat, j ≤ n ∧ i = .int .i64 j ∧ Hid (decide (d ∈ (xs.map (·.1)).drop j) = R) ∧ Hid (DBlk wr g d hd) ∧ Hid (Below w.heap.size w wr)) (fun _ i _ => n - (intOf i).toNat)
  case atStart => exact ⟨0, Nat.zero_le _, rfl, HR, KD, HB0⟩
  case round =>
    clear HR KD HB0
    obtain ⟨j, hj, rfl, HR, KD, B⟩ := hrel
    have i0 : (0 : Int) ≤ (j : Int) := by omega
    by_cases hlt : j < n
    · have i1 : (j : Int) < (n : Int) := by omega
      obtain ⟨b, off, x, rfl, hb, hx, hxm, c0, c1, c2, c3⟩ := (HS.out.next B.out).at_ hlt
      have HJ : Hid (decide (d ∈ (xs.map (·.1)).drop j) = (decide (x.1 = d) || decide (d ∈ (xs.map (·.1)).drop (j + 1)))) := by
        unfold Hid
        rw [dropmap hx, Bool.eq_iff_iff, Bool.or_eq_true, decide_eq_true_iff, decide_eq_true_iff, decide_eq_true_iff, List.mem_cons]
        exact ⟨fun h => h.imp_left Eq.symm, fun h => h.imp_left Eq.symm⟩
      have hbl := below_lit wr (.cells #[.int .u8 x.1.1, .int .u16 x.1.2.1, .int .u8 x.1.2.2.1, .slice x.2.1 x.2.2.1 x.2.2.2] 34)
      have FX := Lib.hid (HS.out.fl x hxm)
      have K : Hid (DBlk (wr.alloc (.cells #[.int .u8 x.1.1, .int .u16 x.1.2.1, .int .u8 x.1.2.2.1, .slice x.2.1 x.2.2.1 x.2.2.2] 34)) wr.heap.size x.1 x.2) := DBlk.new wr x.1 x.2
      have KD2 := Lib.hid (KD.out.next hbl)
      have B2 := Lib.hid (thn B.out hbl)
      clear hx hxm hb hbl B KD
      go_upto_region 4 with fail
      clear c0 c1 c2 c3
      generalize wr.alloc _ = w3 at *
      obtain ⟨q, hq⟩ : ∃ q, wr.heap.size = q := ⟨_, rfl⟩
      rw [hq] at K ⊢
      clear hq
      obtain ⟨p0, p1, p2, p3⟩ := K.out.cells
      obtain ⟨q0, q1, q2, q3⟩ := KD2.out.cells
      have hC := same_any x (d, hd) w3 (Sn.next FX.out B2.out) (Sn.next HF.out B2.out)
      obtain ⟨z, hz⟩ : ∃ z, decide (x.1 = d) = z := ⟨_, rfl⟩
      rw [show decide (x.1 = ((d, hd) : Dsc × Hd).1) = z from hz] at hC
      have HC := Lib.hid hC
      rw [hz] at HJ
      clear hz hC
      cases z
      · have HR2 : Hid (decide (d ∈ (xs.map (·.1)).drop (j + 1)) = R) := by
          have h1 := HJ.out
          rw [HR.out, Bool.false_or] at h1
          exact h1.symm
        go_wp2_with fail
        refine HC.out.mono ?_
        rintro e w4 ⟨rfl, b4⟩
        have B4 := Lib.hid (thn B2.out b4)
        have KD4 := Lib.hid (KD2.out.next b4)
        clear b4 HC HJ p0 p1 p2 p3 q0 q1 q2 q3
        go_wp2
        go_roundw
        case rel => exact ⟨j + 1, by omega, by go_num, HR2, KD4, B4⟩
        case measure => simp [intOf]; omega
      · have HE : Hid (R = true) := by
          have h1 := HJ.out
          rw [HR.out] at h1
          exact h1
        go_wp2_with fail
        refine HC.out.mono ?_
        rintro e w4 ⟨rfl, b4⟩
        have B4 := Lib.hid (thn B2.out b4)
        clear b4
        go_wp2
        go_ret
        exact ⟨by rw [HE.out]; rfl, B4.out⟩
    · obtain rfl : j = n := by omega
      have HE : Hid (R = false) := by
        have h1 := HR.out
        rw [dropall (by rw [← HL.out]; exact Nat.le_refl _)] at h1
        exact h1.symm
      go_wp2
      go_ret
      exact ⟨by rw [HE.out]; rfl, B.out⟩
end Go.Proofs.Ytgbnnllbpidlfaa
