/- Layer 5: the reference's Normal. -/
import Derived.Test.YtdgobdfggdmnpaaDoorFl3
namespace Go.Proofs.YtdgobdfggdmnpaaDoor
open Go.RowKit
set_option linter.unusedVariables false
def normF (ps fs : List (Int × Int)) : List (Int × Int) := if fs.length = 0 then [] else if fs.length = ps.length then meetF fs ps else []
def normE (ps fs : List (Int × Int)) : Int := if fs.length = 0 then 0 else if fs.length = ps.length then 0 else 50
def GaveN (ps : List (Int × Int)) (k : Int) (w : World) (e : Ending) (w' : World) : Prop := ∃ A c, e = .returned (.tuple #[.slice A ps.length c, .int .i64 k]) ∧ Sp w' w'.heap.size A ps.length c ps ∧ Below w.heap.size w w'
set_option maxHeartbeats 4000000 in
theorem refNormalF_any (A : Option Addr) (n c : Nat) (es : List (Int × Int)) (A' : Option Addr) (n' c' : Nat) (bs : List (Int × Int)) (w : World) (h : Sp w w.heap.size A n c es) (h' : Sp w w.heap.size A' n' c' bs) (hn8 : n ≤ 1000000) :
    Calls Tryd.prog 22 #[.slice A n c, .slice A' n' c'] w (GaveN (normF es bs) (normE es bs) w) := by
  have HL : Hid (n = es.length) := sp_len h
  have HL' : Hid (n' = bs.length) := sp_len h'
  have hm := h.max
  have hc := h.cap
  have hm' := h'.max
  have hc' := h'.cap
  unfold maxLen at hm hm'
  have HS := Lib.hid h
  have HS' := Lib.hid h'
  clear h h'
  by_cases h0 : n' = 0
  · have HE : Hid (normF es bs = [] ∧ normE es bs = 0) := ⟨if_pos (HL'.out.symm.trans h0), if_pos (HL'.out.symm.trans h0)⟩
    subst h0
    go_enter Tryd.func22, Tryd.ntmps22
    go_wp2
    go_ret2
    exact ⟨none, 0, by rw [HE.out.1, HE.out.2]; rfl, by rw [HE.out.1]; exact sp_zero _ _ _, Below.refl _ _⟩
  by_cases hn : n' = n
  · subst hn
    have HE : Hid (normF es bs = meetF bs es ∧ normE es bs = 0) := by
      unfold Hid normF normE
      rw [← HL.out, ← HL'.out, if_neg h0, if_neg h0, if_pos rfl, if_pos rfl]; exact ⟨rfl, rfl⟩
    go_enter Tryd.func22, Tryd.ntmps22
    go_wp2
    go_loopw [6, 7] (fun v i wr => ∃ (j : Nat) (A2 : Option Addr) (c2 : Nat), j ≤ n' ∧ i = .int .i64 j ∧ v = .slice A2 j c2 ∧ Hid (Ows wr w.heap.size 42 2 A2 j c2 (spl (es.take j))) ∧ Below w.heap.size w wr) (fun _ i _ => n' - (intOf i).toNat)
    case atStart => exact ⟨0, none, 0, Nat.zero_le _, rfl, rfl, Ows.nil _ _ _ _, Below.refl _ _⟩
    case round =>
      obtain ⟨j, A2, c2, hj, rfl, rfl, O3, b1⟩ := hrel
      by_cases hlt : j < n'
      · obtain ⟨b, off, p, rfl, hp, HC⟩ := sp_cells (HS.out.next b1) hlt
        obtain ⟨c1, c3⟩ := HC.out wr (Below.refl _ _)
        have i0 : (0 : Int) ≤ (j : Int) := by omega
        have i1 : (j : Int) < (n' : Int) := by omega
        have hsz := b1.size
        have HP : Hid (es.take (j + 1) = es.take j ++ [p]) := by unfold Hid; rw [List.take_add_one, hp]; rfl
        clear hp
        go_wp2_with (at_builtin; go_must (refine wpList_apps rfl _ _ 24 rfl Tryd.underlying24 infoSpan rfl (by decide) rfl (O3.out.below (below_lit _ _)) rfl (Sn.lit_at _ _ _ _ 2 1 _ (by simp) rfl (by decide)) (span_one _ _) (by omega) (by omega) (by decide) (by simp only [World.size_alloc]; omega) ?_); intro A4 c4 w4 o4 g4)
        have O5 : Hid (Ows w4 w.heap.size 42 2 A4 (j + 1) c4 (spl (es.take (j + 1)))) := by
          unfold Hid
          rw [HP.out, spl_append]
          exact o4
        have b4 := (b1.trans ((below_lit wr _).mono hsz)).grown g4 (by simp only [World.size_alloc]; omega) O3.out.lt
        clear o4 g4
        go_wp2
        go_roundw
        case rel => exact ⟨j + 1, by omega, by go_num, A4, c4, ⟨rfl, rfl, rfl⟩, O5, b4⟩
        case measure => simp [intOf]; omega
      · obtain rfl : j = n' := by omega
        have HT : Hid (es.take j = es) := List.take_of_length_le (by rw [← HL.out]; exact Nat.le_refl _)
        rw [HT.out] at O3
        have S2 : Hid (Sp wr wr.heap.size A2 j c2 es) := Sn.of_own O3.out
        go_wp2_with fail
        refine (refMeetF_any A' j c' bs A2 j c2 es wr (HS'.out.next b1) S2.out hn8).mono ?_
        rintro e w5 ⟨A5, c5, rfl, s5, b5⟩
        have S5 := Lib.hid s5
        have bb := thn b1 b5
        clear s5 b5
        go_wp2
        go_ret2
        exact ⟨A5, c5, by rw [HE.out.1, HE.out.2]; rfl, by rw [HE.out.1]; exact S5.out, bb⟩
  · have HE : Hid (normF es bs = [] ∧ normE es bs = 50) := by
      unfold Hid normF normE
      rw [← HL.out, ← HL'.out, if_neg h0, if_neg h0, if_neg hn, if_neg hn]; exact ⟨rfl, rfl⟩
    go_enter Tryd.func22, Tryd.ntmps22
    go_wp2
    go_ret2
    exact ⟨none, 0, by rw [HE.out.1, HE.out.2]; rfl, by rw [HE.out.1]; exact sp_zero _ _ _, Below.refl _ _⟩
end Go.Proofs.YtdgobdfggdmnpaaDoor
