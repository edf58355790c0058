/- Layer 7: grapevineref07.Has; Same. -/
import Derived.Test.YtdpcknfplognmaaIf
namespace Go.Proofs.Ytdpcknfplognmaa
open Go.RowKit
set_option linter.unusedVariables false
theorem not_take {x y : Id3} {l : List Id3} {j : Nat} (h : x ∉ l.take j) (hy : l[j]? = some y) (hn : y ≠ x) : x ∉ l.take (j + 1) := by
  rw [List.take_add_one, hy]
  simp only [List.mem_append, Option.toList_some, List.mem_singleton, not_or]
  exact ⟨h, fun e => hn e.symm⟩
theorem refHas_any (A : Option Addr) (n c : Nat) (l : List Id3) (x : Id3) (w : World) (h : Sd w w.heap.size A n c l) :
    Calls Try.prog 18 #[.slice A n c, (.agg #[.int .u8 x.1, .int .u16 x.2.1, .int .u32 x.2.2])] w fun e w' => e = .returned (.bool (decide (x ∈ l))) ∧ Below w.heap.size w w' := by
  have HL : Hid (n = l.length) := sd_len h
  have hm := h.max
  have hc := h.cap
  unfold maxLen at hm
  have bl := below_lit w (.cells #[.int .u8 x.1, .int .u16 x.2.1, .int .u32 x.2.2] 25)
  have HS := Lib.hid (h.next bl)
  have HX := Lib.hid (IdBlk.new w x)
  have BL := Lib.hid bl
  clear h bl
  go_enter Try.func18, Try.ntmps18
  go_upto_region 1 with fail
  generalize w.alloc _ = W at *
  obtain ⟨g, hg⟩ : ∃ g, w.heap.size = g := ⟨_, rfl⟩
  rw [hg] at HX ⊢
  go_wp2
  go_loopw [5] (fun v wr => ∃ j : Nat, j ≤ n ∧ v = .int .i64 j ∧ Hid (x ∉ l.take j) ∧ Hid (Below W.heap.size W wr)) (fun v _ => n - (intOf v).toNat)
  case atStart => exact ⟨0, Nat.zero_le _, rfl, by unfold Hid; simp, Below.refl _ _⟩
  case round =>
    obtain ⟨j, hj, rfl, HR, b1⟩ := hrel
    have i0 : (0 : Int) ≤ (j : Int) := by omega
    by_cases hlt : j < n
    · have i1 : (j : Int) < (n : Int) := by omega
      obtain ⟨b, off, y, rfl, hb, hy, CY⟩ := sd_cells (HS.out.next b1.out) hlt
      obtain ⟨c0, c1, c2⟩ := CY.out wr (Below.refl _ _)
      obtain ⟨d0, d1, d2⟩ := (HX.out.next b1.out).cells
      have HY := Lib.hid hy
      clear hy
      by_cases hyx : y = x
      · have heq := fun w' : World => (ideql y x w').trans (by rw [decide_eq_true hyx])
        have HF : Hid (decide (x ∈ l) = true) := decide_eq_true (by rw [← hyx]; exact List.mem_of_getElem? HY.out)
        clear hyx
        go_wp2
        go_quiet (fail)
        have b3 := dN b1.out nq
        go_wp2
        go_ret
        exact ⟨ret_bool HF.out.symm, thn BL.out b3⟩
      · have heq := fun w' : World => (ideql y x w').trans (by rw [decide_eq_false hyx])
        have HR2 := Lib.hid (not_take HR.out HY.out hyx)
        clear hyx
        go_wp2
        go_quiet (fail)
        have b3 := dN b1.out nq
        generalize wr.drewN nq = w2 at *
        go_wp2
        go_roundw
        case rel => exact ⟨j + 1, by omega, by go_num, HR2, b3⟩
        case measure => simp [intOf]; omega
    · obtain rfl : j = n := by omega
      have HF : Hid (decide (x ∈ l) = false) := decide_eq_false (by have := HR.out; rwa [List.take_of_length_le (by rw [← HL.out]; exact Nat.le_refl _)] at this)
      go_wp2
      go_ret
      exact ⟨ret_bool HF.out.symm, thn BL.out b1.out⟩
def Alike {α : Type} (xs ys : List α) (j : Nat) : Prop := ∀ i, i < j → xs[i]? = ys[i]?
theorem Alike.succ {α : Type} {xs ys : List α} {j : Nat} (h : Alike xs ys j) (he : xs[j]? = ys[j]?) : Alike xs ys (j + 1) := fun i hi => by
  rcases Nat.lt_or_ge i j with h3 | h3
  · exact h i h3
  · obtain rfl : i = j := by omega
    exact he
theorem Alike.all {α : Type} {xs ys : List α} (h : Alike xs ys xs.length) (hl : ys.length = xs.length) : xs = ys :=
  List.ext_getElem? fun i => by
    rcases Nat.lt_or_ge i xs.length with h1 | h1
    · exact h i h1
    · rw [List.getElem?_eq_none h1, List.getElem?_eq_none (by omega)]
theorem same_any (A : Option Addr) (n c : Nat) (l : List Id3) (A' : Option Addr) (n' c' : Nat) (l' : List Id3) (w : World) (h : Sd w w.heap.size A n c l) (h' : Sd w w.heap.size A' n' c' l') :
    Calls Try.prog 19 #[.slice A n c, .slice A' n' c'] w fun e w' => e = .returned (.bool (decide (l = l'))) ∧ Below w.heap.size w w' := by
  have HL : Hid (n = l.length) := sd_len h
  have HL' : Hid (n' = l'.length) := sd_len h'
  have hm := h.max
  have hc := h.cap
  have hm' := h'.max
  have hc' := h'.cap
  unfold maxLen at hm hm'
  have HS := Lib.hid h
  have HS' := Lib.hid h'
  clear h h'
  by_cases hn : n = n'
  · subst hn
    go_enter Try.func19, Try.ntmps19
    go_wp2
    go_loopw [5, 13] (fun _ v wr => ∃ j : Nat, j ≤ n ∧ v = .int .i64 j ∧ Hid (Alike l l' j) ∧ Hid (Below w.heap.size w wr)) (fun _ v _ => n - (intOf v).toNat)
    case atStart => exact ⟨0, Nat.zero_le _, rfl, fun i hi => absurd hi (by omega), Below.refl _ _⟩
    case round =>
      obtain ⟨j, hj, rfl, HO, b1⟩ := hrel
      have i0 : (0 : Int) ≤ (j : Int) := by omega
      by_cases hlt : j < n
      · have i1 : (j : Int) < (n : Int) := by omega
        obtain ⟨b, off, y, rfl, hb, hy, CY⟩ := sd_cells (HS.out.next b1.out) hlt
        obtain ⟨b', off', z, rfl, hb', hz, CZ⟩ := sd_cells (HS'.out.next b1.out) hlt
        obtain ⟨c0, c1, c2⟩ := CY.out wr (Below.refl _ _)
        obtain ⟨d0, d1, d2⟩ := CZ.out wr (Below.refl _ _)
        have HY := Lib.hid hy
        have HZ := Lib.hid hz
        clear hy hz
        by_cases hyz : y = z
        · have heq := fun w' : World => (idneq y z w').trans (by rw [decide_eq_true hyz])
          have HO2 : Hid (Alike l l' (j + 1)) := HO.out.succ (HY.out.trans (by rw [hyz]; exact HZ.out.symm))
          clear hyz
          go_wp2
          go_quiet (fail)
          have b3 := dN b1.out nq
          generalize wr.drewN nq = w2 at *
          go_wp2
          go_roundw
          case rel => exact ⟨j + 1, by omega, by go_num, HO2, b3⟩
          case measure => simp [intOf]; omega
        · have heq := fun w' : World => (idneq y z w').trans (by rw [decide_eq_false hyz])
          have HF : Hid (decide (l = l') = false) := decide_eq_false fun e => hyz (by
            have h1 := HY.out
            rw [e, HZ.out] at h1
            injection h1 with h1
            exact h1.symm)
          clear hyz
          go_wp2
          go_quiet (fail)
          have b3 := dN b1.out nq
          go_wp2
          go_ret
          exact ⟨ret_bool HF.out.symm, b3⟩
      · obtain rfl : j = n := by omega
        have HF : Hid (decide (l = l') = true) := decide_eq_true (Alike.all (fun i hi => HO.out i (by rw [HL.out]; exact hi)) (by rw [← HL'.out, ← HL.out]))
        go_wp2
        go_ret
        exact ⟨ret_bool HF.out.symm, b1.out⟩
  · have HF : Hid (decide (l = l') = false) := decide_eq_false fun e => hn (by rw [HL.out, HL'.out, e])
    have hn' : ¬ ((n : Int) = (n' : Int)) := by omega
    go_enter Try.func19, Try.ntmps19
    go_wp2
    go_ret
    exact ⟨ret_bool HF.out.symm, Below.refl _ _⟩
end Go.Proofs.Ytdpcknfplognmaa
