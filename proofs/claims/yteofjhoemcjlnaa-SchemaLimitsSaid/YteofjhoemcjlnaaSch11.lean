/- Layer 3: the ranges of the chapter; ranges made right. -/
import Derived.Test.YteofjhoemcjlnaaSch10
import Derived.Test.YteofjhoemcjlnaaGn
namespace Go.Proofs.Yteofjhoemcjlnaa
open Go.RowKit
set_option linter.unusedVariables false
def GaveS (ps : List (Int × Int)) (w : World) (e : Ending) (w' : World) : Prop := ∃ A c, e = .returned (.slice A ps.length c) ∧ Sp w' w'.heap.size A ps.length c ps ∧ Below w.heap.size w w'
def twoL : List (Int × Int) := [(0, 9), (-5, 5)]
theorem two_any (w : World) : Calls Try.prog 23 #[] w (GaveS twoL w) := by
  have h := Sn.lit w #[.int .i32 0, .int .i32 9, .int .i32 (-5), .int .i32 5] 44 (0, 0) 2 2 rfl (by simp [maxLen])
  have hb := below_lit w (.cells #[.int .i32 0, .int .i32 9, .int .i32 (-5), .int .i32 5] 44)
  have HG : Hid (GaveS twoL w (.returned (.slice (some ⟨w.heap.size, 0, none⟩) 2 2)) (w.alloc (.cells #[.int .i32 0, .int .i32 9, .int .i32 (-5), .int .i32 5] 44))) := ⟨_, _, rfl, h.more (by simp), hb⟩
  clear h hb
  go_enter Try.func23, Try.ntmps23
  go_wp2
  go_ret
  exact HG.out
theorem infoSpan : (Try.prog.info? 44).map (fun i => (i.zero, i.size, i.bytes)) = some (some (.agg #[.int .i32 0, .int .i32 0]), 2, 8) := by kernel_rfl
def upright (p : Int × Int) : Int × Int := (min p.1 p.2, max p.1 p.2)
def uprights (ps : List (Int × Int)) : List (Int × Int) := (ps.take 4).map upright
def ofL (ps : List (Int × Int)) : List (Int × Int) := if ps = [] then twoL else uprights ps
theorem ofL_right (ps : List (Int × Int)) : ∀ p ∈ ofL ps, p.1 ≤ p.2 := by
  intro p hp
  unfold ofL at hp
  split at hp
  · simp only [twoL, List.mem_cons, List.not_mem_nil, or_false] at hp
    rcases hp with rfl | rfl <;> decide
  · obtain ⟨q, _, rfl⟩ := List.mem_map.1 hp
    simp only [upright]
    omega
theorem ofL_length (ps : List (Int × Int)) : 1 ≤ (ofL ps).length ∧ (ofL ps).length ≤ 4 := by
  unfold ofL
  split
  · simp [twoL]
  · rename_i h
    have : 0 < ps.length := List.length_pos_iff.2 h
    simp [uprights]; omega
theorem spl_last {w : World} {B : Nat} {E : TypeId} {A : Option Addr} {n c : Nat} {zs : List Value} {a b a' b' : Int} (h : Ows w B E 2 A n c (zs ++ [.int .i32 a, .int .i32 b])) (e : a' = a) (e' : b' = b) : Ows w B E 2 A n c (zs ++ spl [(a', b')]) := by
  subst e e'; exact h
theorem span_one (a b : Int) : ∀ u ∈ (#[.int .i32 a, .int .i32 b] : Array Value).toList, u.oneCell' = true := by
  intro u hu
  simp at hu
  rcases hu with rfl | rfl <;> rfl
theorem of_any (A : Option Addr) (n c : Nat) (ps : List (Int × Int)) (w : World) (h : Sp w w.heap.size A n c ps) : Calls Try.prog 22 #[.slice A n c] w (GaveS (ofL ps) w) := by
  have hm := h.max
  have hc := h.cap
  unfold maxLen at hm
  have HL : Hid (n = ps.length) := sp_len h
  have HS : Hid (Sp w w.heap.size A n c ps) := h
  have HO : Hid (n = 0 → ofL ps = twoL) := fun h0 => by
    have : ps = [] := List.eq_nil_of_length_eq_zero (by rw [← HL.out]; exact h0)
    simp [ofL, this]
  have HO2 : Hid (0 < n → ofL ps = uprights ps) := fun h0 => by
    have : ps ≠ [] := fun e => by have := HL.out; rw [e] at this; simp at this; omega
    simp [ofL, this]
  clear h
  rcases Nat.lt_or_ge 4 n with h4 | h4
  · have e1 := fun w' : World => run_upto (P := Try.prog) (w := w') (A := A) (n := n) (c := c) (hi := 4) 22 44 Try.underlying22 (by kernel_rfl) 2 (fun w' => by kernel_rfl) .i64 (4 : Int) rfl (by omega)
    have HT : Hid (Sp w w.heap.size A 4 c (ps.take 4)) := sp_upto HS.out (by omega)
    have HM : Hid ((ps.take 4).length = 4) := by have := sp_len HT.out; exact this.symm
    have HU : Hid (uprights ps = (ps.take 4).map upright) := by
      unfold Hid uprights
      rfl
    clear HS HL
    generalize ps.take 4 = qs at *
    go_enter Try.func22, Try.ntmps22
    go_wp2
    clear e1
    go_loopw [3, 12] (fun v i wr => ∃ (j : Nat) (A2 : Option Addr) (c2 : Nat), j ≤ 4 ∧ i = .int .i64 j ∧ v = .slice A2 j c2 ∧ Hid (Ows wr w.heap.size 44 2 A2 j c2 (spl ((qs.map upright).take j))) ∧ Below w.heap.size w wr) (fun _ i _ => 4 - (intOf i).toNat)
    case atStart => exact ⟨0, none, 0, Nat.zero_le _, rfl, rfl, Ows.nil _ _ _ _, Below.refl _ _⟩
    case round =>
      obtain ⟨j, A2, c2, hj, rfl, rfl, O3, b3⟩ := hrel
      by_cases hlt : j < 4
      · obtain ⟨b, off, p, rfl, hb, hp, c1, c3⟩ := sp_at (HT.out.next b3) hlt
        have HP : Hid ((qs.map upright).take (j + 1) = (qs.map upright).take j ++ [upright p]) := by
          unfold Hid
          rw [List.take_add_one, List.getElem?_map, hp]; rfl
        clear hp
        have hsz := b3.size
        go_wp2_with (at_builtin; go_must (refine wpList_apps rfl _ _ 23 rfl Try.underlying23 infoSpan rfl (by decide) rfl (O3.out.below (Go.Joins.below_alloc2 _ _ _)) rfl (Sn.lit_at _ _ _ _ 2 1 _ (by simp) rfl (by decide)) (span_one _ _) (by omega) (by omega) (by decide) (by simp only [World.size_alloc]; omega) ?_); intro A4 c4 w4 o4 g4)
        have O5 : Hid (Ows w4 w.heap.size 44 2 A4 (j + 1) c4 (spl ((qs.map upright).take (j + 1)))) := by
          unfold Hid
          rw [HP.out, spl_append]
          exact spl_last o4 (by split <;> omega) (by split <;> omega)
        have b4 := (b3.trans ((Go.Joins.below_alloc2 wr _ _).mono hsz)).grown g4 (by simp only [World.size_alloc]; omega) O3.out.lt
        clear o4 g4
        go_wp2
        go_roundw
        case rel => exact ⟨j + 1, A4, c4, by omega, by go_num, rfl, O5, b4⟩
        case measure => simp [intOf]; omega
      · obtain rfl : 4 = j := by omega
        have HX : Hid ((qs.map upright).take 4 = qs.map upright) := List.take_of_length_le (by rw [List.length_map, HM.out]; exact Nat.le_refl _)
        rw [HX.out] at O3
        have HE : Hid (ofL ps = qs.map upright) := by unfold Hid; rw [HO2.out (by omega), HU.out]
        go_wp2
        go_ret
        exact ⟨A2, c2, by rw [HE.out, List.length_map, HM.out]; rfl, by rw [HE.out, List.length_map, HM.out]; exact Sn.of_own O3.out, b3⟩
  · have e1 := fun w' : World => run_upto (P := Try.prog) (w := w') (A := A) (n := n) (c := c) (hi := n) 22 44 Try.underlying22 (by kernel_rfl) 2 (fun w' => by kernel_rfl) .i64 (n : Int) rfl (by omega)
    have HT : Hid (Sp w w.heap.size A n c (ps.take n)) := sp_upto HS.out (by omega)
    have HM : Hid ((ps.take n).length = n) := by have := sp_len HT.out; exact this.symm
    have HU : Hid (uprights ps = (ps.take n).map upright) := by
      unfold Hid uprights
      rw [List.take_of_length_le (by rw [← HL.out]; exact h4), List.take_of_length_le (by rw [← HL.out]; exact Nat.le_refl _)]
    clear HS HL
    generalize ps.take n = qs at *
    go_enter Try.func22, Try.ntmps22
    go_wp2
    clear e1
    go_loopw [3, 12] (fun v i wr => ∃ (j : Nat) (A2 : Option Addr) (c2 : Nat), j ≤ n ∧ i = .int .i64 j ∧ v = .slice A2 j c2 ∧ Hid (Ows wr w.heap.size 44 2 A2 j c2 (spl ((qs.map upright).take j))) ∧ Below w.heap.size w wr) (fun _ i _ => n - (intOf i).toNat)
    case atStart => exact ⟨0, none, 0, Nat.zero_le _, rfl, rfl, Ows.nil _ _ _ _, Below.refl _ _⟩
    case round =>
      obtain ⟨j, A2, c2, hj, rfl, rfl, O3, b3⟩ := hrel
      by_cases hlt : j < n
      · obtain ⟨b, off, p, rfl, hb, hp, c1, c3⟩ := sp_at (HT.out.next b3) hlt
        have HP : Hid ((qs.map upright).take (j + 1) = (qs.map upright).take j ++ [upright p]) := by
          unfold Hid
          rw [List.take_add_one, List.getElem?_map, hp]; rfl
        clear hp
        have hsz := b3.size
        go_wp2_with (at_builtin; go_must (refine wpList_apps rfl _ _ 23 rfl Try.underlying23 infoSpan rfl (by decide) rfl (O3.out.below (Go.Joins.below_alloc2 _ _ _)) rfl (Sn.lit_at _ _ _ _ 2 1 _ (by simp) rfl (by decide)) (span_one _ _) (by omega) (by omega) (by decide) (by simp only [World.size_alloc]; omega) ?_); intro A4 c4 w4 o4 g4)
        have O5 : Hid (Ows w4 w.heap.size 44 2 A4 (j + 1) c4 (spl ((qs.map upright).take (j + 1)))) := by
          unfold Hid
          rw [HP.out, spl_append]
          exact spl_last o4 (by split <;> omega) (by split <;> omega)
        have b4 := (b3.trans ((Go.Joins.below_alloc2 wr _ _).mono hsz)).grown g4 (by simp only [World.size_alloc]; omega) O3.out.lt
        clear o4 g4
        go_wp2
        go_roundw
        case rel => exact ⟨j + 1, A4, c4, by omega, by go_num, rfl, O5, b4⟩
        case measure => simp [intOf]; omega
      · obtain rfl : n = j := by omega
        have HX : Hid ((qs.map upright).take n = qs.map upright) := List.take_of_length_le (by rw [List.length_map, HM.out]; exact Nat.le_refl _)
        rw [HX.out] at O3
        by_cases h0 : 0 < n
        · have HE : Hid (ofL ps = qs.map upright) := by unfold Hid; rw [HO2.out h0, HU.out]
          go_wp2
          go_ret
          exact ⟨A2, c2, by rw [HE.out, List.length_map, HM.out]; rfl, by rw [HE.out, List.length_map, HM.out]; exact Sn.of_own O3.out, b3⟩
        · have HE : Hid (ofL ps = twoL) := HO.out (by omega)
          have h00 : (n : Int) = 0 := by omega
          go_wp2_with fail
          refine (two_any wr).mono ?_
          rintro r w5 ⟨A5, c5, rfl, s5, b5⟩
          go_wp2
          go_ret
          exact ⟨A5, c5, by rw [HE.out]; rfl, by rw [HE.out]; exact s5, b3.trans (b5.mono b3.size)⟩
end Go.Proofs.Yteofjhoemcjlnaa
