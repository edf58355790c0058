import Derived.Test.YtmajempbncllgaaDoorSch5
namespace Go.Proofs.YtmajempbncllgaaDoor
open Go.RowKit
set_option linter.unusedVariables false
/-- Own memory that reads these numbers. -/
def GaveI (xs : List Int) (w : World) (e : Ending) (w' : World) : Prop := ∃ A c, e = .returned (.slice A xs.length c) ∧ Own w' w.heap.size 21 A xs.length c (Nl .i32 xs) ∧ Below w.heap.size w w'
theorem own_block {w : World} {B g n : Nat} {E : TypeId} {xs : List Value} (h : w.heap[g]? = some (.cells xs.toArray E (0, 0))) (hB : B ≤ g) (hn : xs.length = n) (hm : n ≤ maxLen) : Own w B E (some ⟨g, 0, none⟩) n n xs :=
  ⟨by simpa using hn, .inr ⟨g, n, xs.toArray, rfl, hB, h, Nat.le_refl _, hm, by simpa using hn, by rw [List.take_of_length_le (by simp; omega)]⟩⟩
theorem block_own {w : World} {B g n : Nat} {E : TypeId} {xs : List Value} (h : Own w B E (some ⟨g, 0, none⟩) n n xs) : w.heap[g]? = some (.cells xs.toArray E (0, 0)) := by
  obtain ⟨_, ⟨hv, _⟩ | ⟨g', cap, cur, hv, _, hg, _, _, hcs, ht⟩⟩ := h
  · cases hv
  · injection hv with e1 e2 e3
    injection e1 with e1
    injection e1 with e1
    subst e1 e3
    rw [hg, ← ht, List.take_of_length_le (by simp; omega)]
theorem made_i32 (n : Nat) : (madeCells (Value.cells (.int .i32 0)) (n * 1)).toList = Nl .i32 (List.replicate n 0) := by
  apply List.ext_getElem?
  intro i
  by_cases h : i < n
  · simp [madeCells, Nl, h, Value.cells, Nat.mod_one]
  · simp [madeCells, Nl, h, Value.cells]
theorem splice_pad (n : Nat) (xs : List Int) : splice (Nl .i32 (List.replicate n 0)) 0 (Nl .i32 (xs.take n)) = Nl .i32 (padL n xs) := by
  have e : n - min n xs.length = n - xs.length := by omega
  simp [splice, Nl, padL, List.drop_replicate, e]
theorem bring_any (A : Option Addr) (n c k : Nat) (ps : List (Int × Int)) (A' : Option Addr) (n' c' k' : Nat) (xs : List Int) (w : World) (h : Sp w k A n c ps) (hk : k ≤ w.heap.size) (h' : Si w k' A' n' c' xs) (hk' : k' ≤ w.heap.size) (h4 : n ≤ 4) :
    Calls Tryd.prog 23 #[.slice A n c, .slice A' n' c'] w (GaveI (bringL ps xs) w) := by
  have HL : Hid (n = ps.length) := sp_len h
  have HL' : Hid (n' = xs.length) := si_len h'
  have hm := h.max
  have hc := h.cap
  have hm' := h'.max
  have hc' := h'.cap
  unfold maxLen at hm hm'
  have HS : Hid (Sp w w.heap.size A n c ps) := h.more hk
  have HS' : Hid (Si w w.heap.size A' n' c' xs) := h'.more hk'
  clear h h'
  obtain ⟨i0, hi, hz0, hz1, hz2⟩ := info_parts infoI32
  have KN : Hid ((Nl .i32 (xs.take n)).length = Nat.min n' n) := by have := HL'.out; unfold Hid; simp only [Nl_length, List.length_take]; rw [this]; exact Nat.min_comm _ _
  have KF : Hid (0 + (Nl .i32 (xs.take n)).length ≤ (Nl .i32 (List.replicate n 0)).length) := by unfold Hid; simp only [Nl_length, List.length_take, List.length_replicate]; omega
  go_enter Tryd.func23, Tryd.ntmps23
  go_wp2_with (first
    | (at_make; go_must (refine wpList_make_full _ rfl _ _ 39 rfl w.heap.size 21 i0 (.int .i32 0) 1 Tryd.underlying39 hi hz0 hz1 .i64 .i64 _ _ n rfl rfl rfl rfl (by rw [hz2]; omega) (by unfold maxLen; omega) (Nat.le_refl _) ?_); intro w1 o1 g1
       have b1 := (Below.refl w.heap.size w).grown g1 (Nat.le_refl _) (by simp)
       have k1 := block_own o1
       rw [made_i32] at k1
       have K1 : Hid (w1.heap[w.heap.size]? = some (.cells (Nl .i32 (List.replicate n 0)).toArray 21 (0, 0))) := k1
       have hs1 := b1.size
       clear k1 o1 g1)
    | (refine wpList_copy_splice rfl (.tmp 11) (.tmp 12) 39 39 rfl 21 Tryd.underlying39 (by kernel_rfl) (some ⟨w.heap.size, 0, none⟩) A' n n n' c' rfl rfl w.heap.size 0 _ 21 K1.out _ KN.out (fun hp => ⟨rfl, by
        have h0 : 0 < n' := by have := KN.out; rw [this] at hp; have : Nat.min n' n ≤ n' := Nat.min_le_left _ _; omega
        obtain ⟨b, off, e, _, hcl⟩ := (HS'.out.next b1).at_ h0
        refine ⟨_, e, fun j v hv => ?_⟩
        rw [Addr.add_lit]
        refine hcl j v ?_
        unfold Nl at hv ⊢
        rw [List.map_take, List.getElem?_take] at hv
        split at hv
        · exact hv
        · cases hv⟩) KF.out (Nl_one _ _) w.heap.size w b1 (Nat.le_refl _) ?_
       rw [splice_pad]
       intro w2 K2 b2
       clear K1 KN KF))
  clear b1 hs1
  have HM : Hid (padL n xs = mixL ps xs 0) := by unfold Hid; rw [mixL_zero, HL.out]
  rw [HM.out] at K2
  go_loopw [16] (fun i wr => ∃ j : Nat, j ≤ n ∧ i = .int .i64 j ∧ Hid (wr.heap[w.heap.size]? = some (.cells (Nl .i32 (mixL ps xs j)).toArray 21 (0, 0))) ∧ Below w.heap.size w wr) (fun i _ => n - (intOf i).toNat)
  case atStart => exact ⟨0, Nat.zero_le _, rfl, K2, b2⟩
  case round =>
    obtain ⟨j, hj, rfl, K3, b3⟩ := hrel
    clear K2 b2 HM
    by_cases hlt : j < n
    · obtain ⟨b, off, p, rfl, hb, hp, c1, c2⟩ := sp_at (HS.out.next b3) hlt
      have HP : Hid (ps[j]? = some p) := hp
      have hlp : j < ps.length := by rw [← HL.out]; exact hlt
      have hg : w.heap.size < wr.heap.size := (Array.getElem?_eq_some_iff.1 K3.out).1
      have d3 : wr.cell? ⟨w.heap.size, j, none⟩ = some (.int .i32 (xs.getD j 0)) := by
        rw [cell_of_row wr _ j _ 21 (0, 0) K3.out]
        simpa using Nl_at (mixL_get ps xs j hlp)
      have f3 : wr.frozen? ⟨w.heap.size, j, none⟩ = false := by simp [World.frozen?, K3.out]
      have hset := mixL_set ps xs j p hp
      have K4 : ∀ y, y = bro (xs.getD j 0) p → Hid ((((wr.alloc (.cells #[.int .i32 p.1, .int .i32 p.2] 36)).drew).setCell ⟨w.heap.size, j, none⟩ (.int .i32 y)).heap[w.heap.size]? = some (.cells (Nl .i32 (mixL ps xs (j + 1))).toArray 21 (0, 0))) := by
        intro y hy
        have h1 : ((wr.alloc (.cells #[.int .i32 p.1, .int .i32 p.2] 36)).drew).heap[w.heap.size]? = some (.cells (Nl .i32 (mixL ps xs j)).toArray 21 (0, 0)) := (heap_alloc_old wr _ hg).trans K3.out
        have h2 := Go.Joins.block_setCell (i := j) h1 (.int .i32 y)
        unfold Hid
        rw [h2, ← hset, hy]
        congr 2
        unfold Nl
        rw [List.map_set]
        simp
      have hsz := b3.size
      have d0 : (wr.alloc (.cells #[.int .i32 p.1, .int .i32 p.2] 36)).cell? ⟨wr.heap.size, 0, none⟩ = some (.int .i32 p.1) := by simp
      have d1 : (wr.alloc (.cells #[.int .i32 p.1, .int .i32 p.2] 36)).cell? ⟨wr.heap.size, 1, none⟩ = some (.int .i32 p.2) := by simp
      have d2 : (wr.alloc (.cells #[.int .i32 p.1, .int .i32 p.2] 36)).cell? ⟨w.heap.size, j, none⟩ = some (.int .i32 (xs.getD j 0)) := (World.cell?_alloc_lt wr _ _ hg).trans d3
      have f2 : (wr.alloc (.cells #[.int .i32 p.1, .int .i32 p.2] 36)).frozen? ⟨w.heap.size, j, none⟩ = false := by
        rw [World.frozen?_of_block (w := wr) (heap_alloc_old wr _ hg)]; exact f3
      have b4 := b3.alloc hsz (.cells #[.int .i32 p.1, .int .i32 p.2] 36)
      have i0 : (0 : Int) ≤ (j : Int) := by omega
      have i1 : (j : Int) < (n : Int) := by omega
      have HY : ∃ y, Hid (y = bro (xs.getD j 0) p) := ⟨_, rfl⟩
      obtain ⟨y, HY⟩ := HY
      have K5 := K4 y HY.out
      clear hp hset K4 d3 f3 K3 hlp
      generalize xs.getD j 0 = x at *
      go_wp2
      generalize wr.alloc (.cells #[.int .i32 p.1, .int .i32 p.2] 36) = wa at *
      generalize wr.heap.size = gg at *
      refine wp_region_still_tail 12 (by kernel_rfl) (by kernel_rfl) ?_
      change wpStill _ _ wa.drew _ _ _
      simp only [List.take_succ_cons, List.take_zero, List.drop_succ_cons, List.drop_zero]
      repeat still_step
      still_call (stl (brought_of x p.1 p.2 y HY.out.symm wa.drew))
      repeat still_step
      refine wpStill_nil ?_
      go_wp2
      go_roundw
      case rel => exact ⟨j + 1, by omega, by go_num, K5, (b4.drew).setCell (Nat.le_refl _) _⟩
      case measure => simp [intOf]; omega
    · obtain rfl : j = n := by omega
      have HX : Hid (mixL ps xs j = bringL ps xs) := by unfold Hid; rw [HL.out, mixL_all]
      go_wp2
      go_ret
      have hl : (bringL ps xs).length = j := by rw [bringL_length, HL.out]
      rw [HX.out] at K3
      exact ⟨_, j, by rw [hl]; rfl, by rw [hl]; exact own_block K3.out (Nat.le_refl _) (by rw [Nl_length, hl]) (by unfold maxLen; omega), b3⟩
end Go.Proofs.YtmajempbncllgaaDoor
