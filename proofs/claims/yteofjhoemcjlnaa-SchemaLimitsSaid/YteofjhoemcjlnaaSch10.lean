/- Layer 3: contracts of Same and of its reference. -/
import Derived.Test.YteofjhoemcjlnaaSch9
namespace Go.Proofs.Yteofjhoemcjlnaa
open Go.RowKit
set_option linter.unusedVariables false
theorem sameB_id {e f : Ev} (h : ¬ (e.node = f.node ∧ e.inc = f.inc ∧ e.seq = f.seq)) : sameB e f = false := by
  have : (decide (e.node = f.node) && decide (e.inc = f.inc) && decide (e.seq = f.seq)) = false := by
    rw [Bool.eq_false_iff]
    intro h'
    simp only [Bool.and_eq_true, decide_eq_true_eq] at h'
    exact h ⟨h'.1.1, h'.1.2, h'.2⟩
  simp [sameB, this]
theorem sameB_of (n i s : Int) (xs ys : List Int) (l m : List UInt8) : sameB ⟨n, i, s, xs, l⟩ ⟨n, i, s, ys, m⟩ = (decide (xs = ys) && (l == m)) := by simp [sameB]
def evCells (e : Ev) (V : Option Addr) (vn vc : Nat) (D : Option Addr) (dn dc : Nat) : Array Value := #[.int .u8 e.node, .int .u16 e.inc, .int .u32 e.seq, .slice V vn vc, .slice D dn dc]
section
variable (n i s n' i' s' : Int) (V D V' D' : Option Addr) (vn vc dn dc vn' vc' dn' dc' : Nat) (xs ys : List Int) (l m : List UInt8) (w : World)
theorem same_apart (h : ¬ (n = n' ∧ i = i' ∧ s = s')) :
    Calls Try.prog 12 #[.agg #[.int .u8 n, .int .u16 i, .int .u32 s, .slice V vn vc, .slice D dn dc], .agg #[.int .u8 n', .int .u16 i', .int .u32 s', .slice V' vn' vc', .slice D' dn' dc']] w fun r w' => r = .returned (.bool false) ∧ Below w.heap.size w w' := by
  have hb := Go.Joins.below_alloc2 w (.cells #[.int .u8 n, .int .u16 i, .int .u32 s, .slice V vn vc, .slice D dn dc] 31) (.cells #[.int .u8 n', .int .u16 i', .int .u32 s', .slice V' vn' vc', .slice D' dn' dc'] 31)
  have hh : (¬ n = n') ∨ (n = n' ∧ ¬ i = i') ∨ (n = n' ∧ i = i' ∧ ¬ s = s') := by omega
  clear h
  rcases hh with h | ⟨rfl, h⟩ | ⟨rfl, rfl, h⟩
  all_goals
    go_enter Try.func12, Try.ntmps12
    go_wp2
    go_ret
    exact ⟨rfl, hb⟩
theorem refSame_apart (h : ¬ (n = n' ∧ i = i' ∧ s = s')) :
    Calls Try.prog 13 #[.agg #[.int .u8 n, .int .u16 i, .int .u32 s, .slice V vn vc, .slice D dn dc], .agg #[.int .u8 n', .int .u16 i', .int .u32 s', .slice V' vn' vc', .slice D' dn' dc']] w fun r w' => r = .returned (.bool false) ∧ Below w.heap.size w w' := by
  have hb := Go.Joins.below_alloc2 w (.cells #[.int .u8 n, .int .u16 i, .int .u32 s, .slice V vn vc, .slice D dn dc] 31) (.cells #[.int .u8 n', .int .u16 i', .int .u32 s', .slice V' vn' vc', .slice D' dn' dc'] 31)
  have hh : (¬ n = n') ∨ (n = n' ∧ ¬ i = i') ∨ (n = n' ∧ i = i' ∧ ¬ s = s') := by omega
  clear h
  rcases hh with h | ⟨rfl, h⟩ | ⟨rfl, rfl, h⟩
  all_goals
    go_enter Try.func13, Try.ntmps13
    go_wp2
    go_ret
    exact ⟨rfl, hb⟩
theorem same_id (h1 : Si w w.heap.size V vn vc xs) (h2 : Sl w w.heap.size D dn dc l) (h3 : Si w w.heap.size V' vn' vc' ys) (h4 : Sl w w.heap.size D' dn' dc' m) :
    Calls Try.prog 12 #[.agg #[.int .u8 n, .int .u16 i, .int .u32 s, .slice V vn vc, .slice D dn dc], .agg #[.int .u8 n, .int .u16 i, .int .u32 s, .slice V' vn' vc', .slice D' dn' dc']] w fun r w' => r = .returned (.bool (decide (xs = ys) && (l == m))) ∧ Below w.heap.size w w' := by
  have HV : Hid (Si w w.heap.size V vn vc xs) := h1
  have HD : Hid (Sl w w.heap.size D dn dc l) := h2
  have HV' : Hid (Si w w.heap.size V' vn' vc' ys) := h3
  have HD' : Hid (Sl w w.heap.size D' dn' dc' m) := h4
  clear h1 h2 h3 h4
  have hb := Go.Joins.below_alloc2 w (.cells #[.int .u8 n, .int .u16 i, .int .u32 s, .slice V vn vc, .slice D dn dc] 31) (.cells #[.int .u8 n, .int .u16 i, .int .u32 s, .slice V' vn' vc', .slice D' dn' dc'] 31)
  have K1 : Hid (((w.alloc (.cells #[.int .u8 n, .int .u16 i, .int .u32 s, .slice V vn vc, .slice D dn dc] 31)).alloc (.cells #[.int .u8 n, .int .u16 i, .int .u32 s, .slice V' vn' vc', .slice D' dn' dc'] 31)).heap[w.heap.size]? = some (.cells #[.int .u8 n, .int .u16 i, .int .u32 s, .slice V vn vc, .slice D dn dc] 31 (0, 0))) := by unfold Hid; rw [heap_alloc_old _ _ (by simp)]; exact heap_alloc_new w _
  have K2 : Hid (((w.alloc (.cells #[.int .u8 n, .int .u16 i, .int .u32 s, .slice V vn vc, .slice D dn dc] 31)).alloc (.cells #[.int .u8 n, .int .u16 i, .int .u32 s, .slice V' vn' vc', .slice D' dn' dc'] 31)).heap[w.heap.size + 1]? = some (.cells #[.int .u8 n, .int .u16 i, .int .u32 s, .slice V' vn' vc', .slice D' dn' dc'] 31 (0, 0))) := by
    unfold Hid
    have := heap_alloc_new (w.alloc (.cells #[.int .u8 n, .int .u16 i, .int .u32 s, .slice V vn vc, .slice D dn dc] 31)) (.cells #[.int .u8 n, .int .u16 i, .int .u32 s, .slice V' vn' vc', .slice D' dn' dc'] 31)
    simpa using this
  have hz : w.heap.size + 1 < ((w.alloc (.cells #[.int .u8 n, .int .u16 i, .int .u32 s, .slice V vn vc, .slice D dn dc] 31)).alloc (.cells #[.int .u8 n, .int .u16 i, .int .u32 s, .slice V' vn' vc', .slice D' dn' dc'] 31)).heap.size := by simp
  go_enter Try.func12, Try.ntmps12
  go_wp2_with fail
  generalize (w.alloc (.cells #[.int .u8 n, .int .u16 i, .int .u32 s, .slice V vn vc, .slice D dn dc] 31)).alloc (.cells #[.int .u8 n, .int .u16 i, .int .u32 s, .slice V' vn' vc', .slice D' dn' dc'] 31) = W at *
  refine (slicesEqual_any _ _ _ _ xs _ _ _ _ ys W (HV.out.next hb) (Nat.le_refl _) (HV'.out.next hb) (Nat.le_refl _)).mono ?_
  rintro r w1 ⟨rfl, b1⟩
  obtain ⟨c0, c1, c2, c3, c4⟩ := ev_cells ((b1.block w.heap.size (by omega)).trans K1.out)
  obtain ⟨d0, d1, d2, d3, d4⟩ := ev_cells ((b1.block (w.heap.size + 1) hz).trans K2.out)
  have hz1 := b1.size
  have bb := hb.trans (b1.mono hb.size)
  clear K1 K2
  cases hx : decide (xs = ys) with
  | false =>
    have HX := Lib.hid hx
    clear hx
    go_wp2
    go_ret
    exact ⟨ret_bool (by rw [HX.out]; rfl), bb⟩
  | true =>
    have HX := Lib.hid hx
    clear hx
    go_wp2_with fail
    refine (bytesEqual_any _ _ _ _ l _ _ _ _ m w1 (HD.out.next bb) (HD'.out.next bb)).mono ?_
    rintro r w2 ⟨rfl, rfl⟩
    go_wp2
    go_ret
    exact ⟨ret_bool (by rw [HX.out]; rfl), bb⟩
theorem refSame_id (h1 : Si w w.heap.size V vn vc xs) (h2 : Sl w w.heap.size D dn dc l) (h3 : Si w w.heap.size V' vn' vc' ys) (h4 : Sl w w.heap.size D' dn' dc' m) :
    Calls Try.prog 13 #[.agg #[.int .u8 n, .int .u16 i, .int .u32 s, .slice V vn vc, .slice D dn dc], .agg #[.int .u8 n, .int .u16 i, .int .u32 s, .slice V' vn' vc', .slice D' dn' dc']] w fun r w' => r = .returned (.bool (decide (xs = ys) && (l == m))) ∧ Below w.heap.size w w' := by
  have HV : Hid (Si w w.heap.size V vn vc xs) := h1
  have HV' : Hid (Si w w.heap.size V' vn' vc' ys) := h3
  have HL : Hid (vn = xs.length) := si_len h1
  have HL' : Hid (vn' = ys.length) := si_len h3
  have hm := h1.max
  have hc := h1.cap
  have hm' := h3.max
  have hc' := h3.cap
  unfold maxLen at hm hm'
  have hb := Go.Joins.below_alloc2 w (.cells #[.int .u8 n, .int .u16 i, .int .u32 s, .slice V vn vc, .slice D dn dc] 31) (.cells #[.int .u8 n, .int .u16 i, .int .u32 s, .slice V' vn' vc', .slice D' dn' dc'] 31)
  have e1 := run_str (P := Try.prog) 29 9 5 Try.underlying29 Try.underlying5 Try.underlying9 (h2.next hb)
  have e2 := run_str (P := Try.prog) 29 9 5 Try.underlying29 Try.underlying5 Try.underlying9 (h4.next hb)
  have K1 : Hid (((w.alloc (.cells #[.int .u8 n, .int .u16 i, .int .u32 s, .slice V vn vc, .slice D dn dc] 31)).alloc (.cells #[.int .u8 n, .int .u16 i, .int .u32 s, .slice V' vn' vc', .slice D' dn' dc'] 31)).heap[w.heap.size]? = some (.cells #[.int .u8 n, .int .u16 i, .int .u32 s, .slice V vn vc, .slice D dn dc] 31 (0, 0))) := by unfold Hid; rw [heap_alloc_old _ _ (by simp)]; exact heap_alloc_new w _
  have K2 : Hid (((w.alloc (.cells #[.int .u8 n, .int .u16 i, .int .u32 s, .slice V vn vc, .slice D dn dc] 31)).alloc (.cells #[.int .u8 n, .int .u16 i, .int .u32 s, .slice V' vn' vc', .slice D' dn' dc'] 31)).heap[w.heap.size + 1]? = some (.cells #[.int .u8 n, .int .u16 i, .int .u32 s, .slice V' vn' vc', .slice D' dn' dc'] 31 (0, 0))) := by
    unfold Hid
    have := heap_alloc_new (w.alloc (.cells #[.int .u8 n, .int .u16 i, .int .u32 s, .slice V vn vc, .slice D dn dc] 31)) (.cells #[.int .u8 n, .int .u16 i, .int .u32 s, .slice V' vn' vc', .slice D' dn' dc'] 31)
    simpa using this
  have hz : w.heap.size + 1 < ((w.alloc (.cells #[.int .u8 n, .int .u16 i, .int .u32 s, .slice V vn vc, .slice D dn dc] 31)).alloc (.cells #[.int .u8 n, .int .u16 i, .int .u32 s, .slice V' vn' vc', .slice D' dn' dc'] 31)).heap.size := by simp
  clear h1 h2 h3 h4
  by_cases hn : vn = vn'
  · subst hn
    cases hl : l == m with
    | false =>
      have HX := Lib.hid hl
      have hl2 : (l != m) = true := by simp [bne, hl]
      have hl3 : ¬ l = m := by simpa using hl
      go_enter Try.func13, Try.ntmps13
      go_wp2
      go_ret
      exact ⟨ret_bool (by simp), hb⟩
    | true =>
      have hl3 : l = m := by simpa using hl
      subst hl3
      clear hl
      go_enter Try.func13, Try.ntmps13
      go_wp2
      clear e1 e2
      generalize (w.alloc (.cells #[.int .u8 n, .int .u16 i, .int .u32 s, .slice V vn vc, .slice D dn dc] 31)).alloc (.cells #[.int .u8 n, .int .u16 i, .int .u32 s, .slice V' vn vc', .slice D' dn' dc'] 31) = W at *
      go_loopw [5] (fun i wr => ∃ j : Nat, j ≤ vn ∧ i = .int .i64 j ∧ Alike xs ys j ∧ Below W.heap.size W wr) (fun i _ => vn - (intOf i).toNat)
      case atStart => exact ⟨0, Nat.zero_le _, rfl, fun i hi => absurd hi (by omega), Below.refl _ _⟩
      case round =>
        obtain ⟨j, hj, rfl, hso, b1⟩ := hrel
        have HO : Hid (Alike xs ys j) := hso
        have bb := hb.trans (b1.mono hb.size)
        have hsz := b1.size
        obtain ⟨c0, c1, c2, c3, c4⟩ := ev_cells ((b1.block w.heap.size (by omega)).trans K1.out)
        obtain ⟨d0, d1, d2, d3, d4⟩ := ev_cells ((b1.block (w.heap.size + 1) hz).trans K2.out)
        clear hso
        by_cases hlt : j < vn
        · obtain ⟨b, off, x, rfl, hbb, hx, e1⟩ := si_at (HV.out.next bb) hlt
          obtain ⟨b', off', y, rfl, hb', hy, e2⟩ := si_at (HV'.out.next bb) hlt
          have HX : Hid (xs[j]? = some x) := hx
          have HY : Hid (ys[j]? = some y) := hy
          have i0 : (0 : Int) ≤ (j : Int) := by omega
          have i1 : (j : Int) < (vn : Int) := by omega
          clear hx hy
          by_cases hxy : x = y
          · subst hxy
            have HF' : Hid (Alike xs ys (j + 1)) := HO.out.succ (HX.out.trans HY.out.symm)
            go_wp2
            go_quiet (fail)
            have b3 := dN b1 nq
            clear c0 c1 c2 c3 c4 d0 d1 d2 d3 d4 e1 e2
            generalize wr.drewN nq = w2 at *
            go_wp2
            go_roundw
            case rel => exact ⟨j + 1, by omega, by go_num, HF'.out, b3⟩
            case measure => simp [intOf]; omega
          · have HF : Hid (decide (xs = ys) = false) := decide_eq_false fun e => hxy (by
              have h1 := HX.out
              rw [e, HY.out] at h1
              injection h1 with h1
              exact h1.symm)
            go_wp2
            go_quiet (fail)
            have b3 := dN bb nq
            go_wp2
            go_ret
            exact ⟨ret_bool (by rw [HF.out]; rfl), b3⟩
        · obtain rfl : j = vn := by omega
          have HF : Hid (decide (xs = ys) = true) := decide_eq_true (Alike.all (fun i hi => HO.out i (by rw [HL.out]; exact hi)) (by rw [← HL'.out, ← HL.out]))
          go_wp2
          go_ret
          exact ⟨ret_bool (by rw [HF.out]; simp), bb⟩
  · have HF : Hid (decide (xs = ys) = false) := decide_eq_false fun e => hn (by rw [HL.out, HL'.out, e])
    have hn' : ¬ ((vn : Int) = (vn' : Int)) := by omega
    go_enter Try.func13, Try.ntmps13
    go_wp2
    go_ret
    exact ⟨ret_bool (by rw [HF.out]; rfl), hb⟩
end
theorem same_any (v : Value) (e : Ev) (v' : Value) (f : Ev) (w : World) (hv : EvR w v e) (hv' : EvR w v' f) :
    Calls Try.prog 12 #[v, v'] w fun r w' => r = .returned (.bool (sameB e f)) ∧ Below w.heap.size w w' := by
  obtain ⟨V, vn, vc, D, dn, dc, rfl, h1, h2⟩ := hv
  obtain ⟨V', vn', vc', D', dn', dc', rfl, h3, h4⟩ := hv'
  by_cases h : e.node = f.node ∧ e.inc = f.inc ∧ e.seq = f.seq
  · obtain ⟨en, ei, es, exs, el⟩ := e
    obtain ⟨fn, fi, fs, fxs, fl⟩ := f
    obtain ⟨rfl, rfl, rfl⟩ := h
    rw [sameB_of]
    exact same_id _ _ _ _ _ _ _ _ _ _ _ _ _ _ _ _ _ _ _ w h1 h2 h3 h4
  · rw [sameB_id h]
    exact same_apart _ _ _ _ _ _ _ _ _ _ _ _ _ _ _ _ _ _ w h
theorem refSame_any (v : Value) (e : Ev) (v' : Value) (f : Ev) (w : World) (hv : EvR w v e) (hv' : EvR w v' f) :
    Calls Try.prog 13 #[v, v'] w fun r w' => r = .returned (.bool (sameB e f)) ∧ Below w.heap.size w w' := by
  obtain ⟨V, vn, vc, D, dn, dc, rfl, h1, h2⟩ := hv
  obtain ⟨V', vn', vc', D', dn', dc', rfl, h3, h4⟩ := hv'
  by_cases h : e.node = f.node ∧ e.inc = f.inc ∧ e.seq = f.seq
  · obtain ⟨en, ei, es, exs, el⟩ := e
    obtain ⟨fn, fi, fs, fxs, fl⟩ := f
    obtain ⟨rfl, rfl, rfl⟩ := h
    rw [sameB_of]
    exact refSame_id _ _ _ _ _ _ _ _ _ _ _ _ _ _ _ _ _ _ _ w h1 h2 h3 h4
  · rw [sameB_id h]
    exact refSame_apart _ _ _ _ _ _ _ _ _ _ _ _ _ _ _ _ _ _ w h
end Go.Proofs.Yteofjhoemcjlnaa
