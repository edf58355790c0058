/- Layer 8, SeenAny: the picks; what the closure comes to. Plain facts; blocks of one cell. -/
import Derived.Test.YtkdlgejkgcojkaaDoorQv
import Derived.Test.YtkdlgejkgcojkaaDoorReg9
import Derived.Test.YtkdlgejkgcojkaaDoorAy
namespace Go.Proofs.YtkdlgejkgcojkaaDoor
open Go.RowKit
set_option linter.unusedVariables false
abbrev pk (w : Nat) (u : UInt8) : Nat := 1 + u.toNat % w
def pickN (w : Nat) (l : List UInt8) : List Nat := l.foldl (fun M u => if pk w u ∈ M then M else M ++ [pk w u]) []
theorem pick_succ {w : Nat} {l : List UInt8} {j : Nat} {u : UInt8} (h : l[j]? = some u) : pickN w (l.take (j + 1)) = if pk w u ∈ pickN w (l.take j) then pickN w (l.take j) else pickN w (l.take j) ++ [pk w u] := by
  unfold pickN
  rw [List.take_add_one, h, List.foldl_append]; rfl
theorem pick_all {w : Nat} (hw : 1 ≤ w) : ∀ (l : List UInt8) (M : List Nat), M.Nodup → (∀ n ∈ M, 1 ≤ n ∧ n ≤ w) →
    (l.foldl (fun M u => if pk w u ∈ M then M else M ++ [pk w u]) M).Nodup ∧ ∀ n ∈ l.foldl (fun M u => if pk w u ∈ M then M else M ++ [pk w u]) M, 1 ≤ n ∧ n ≤ w
  | [], M, h1, h2 => ⟨h1, h2⟩
  | u :: l, M, h1, h2 => by
    rw [List.foldl_cons]
    split
    · exact pick_all hw l M h1 h2
    · rename_i hn
      refine pick_all hw l _ (List.nodup_append.2 ⟨h1, (by simp), fun x hx y hy e => ?_⟩) fun n hn' => ?_
      · rw [List.mem_singleton] at hy; subst hy; subst e; exact hn hx
      · rcases List.mem_append.1 hn' with h | h
        · exact h2 n h
        · rw [List.mem_singleton] at h; subst h
          have := Nat.mod_lt u.toNat (show w > 0 by omega)
          unfold pk; omega
theorem pick_nodup {w : Nat} (hw : 1 ≤ w) (l : List UInt8) : (pickN w l).Nodup := (pick_all hw l [] List.Pairwise.nil (fun n h => by cases h)).1
theorem pick_range {w : Nat} (hw : 1 ≤ w) (l : List UInt8) : ∀ n ∈ pickN w l, 1 ≤ n ∧ n ≤ w := (pick_all hw l [] List.Pairwise.nil (fun n h => by cases h)).2
def rowT (inc : Int) (M : List Nat) : Row3 := if M = [] then (0, 0, 0) else (inc, ((allN M).1 : Int), ((allN M).2 : Int))
/-- Numbers that are all within the window, each once. -/
structure Fine (w : Nat) (M : List Nat) : Prop where
  nodup : M.Nodup
  range : ∀ n ∈ M, 1 ≤ n ∧ n ≤ w
theorem Fine.turn {w : Nat} {M : List Nat} (h : Fine w M) (k : Nat) : Fine w (M.drop k ++ M.take k) := by
  have hp : (M.drop k ++ M.take k).Perm M := List.perm_append_comm.trans (by rw [List.take_append_drop])
  exact ⟨hp.nodup_iff.2 h.nodup, fun n hn => h.range n (hp.mem_iff.1 hn)⟩
theorem rowT_of {inc : Int} {M : List Nat} (h1 : 1 ≤ inc) : ofI (rowT inc M) inc = (inc, ((allN M).1 : Int), ((allN M).2 : Int)) := by
  unfold rowT
  split
  · rename_i h
    subst h
    rw [ofI_other (by show (0 : Int) ≠ inc; omega)]
    rfl
  · exact ofI_same rfl
theorem row_bounds {w : Nat} {M : List Nat} (hw : w ≤ 64) (h : Fine w M) (j : Nat) : RightN w (allN (M.take j)).1 (allN (M.take j)).2 ∧ (allN (M.take j)).1 ≤ w ∧ ∀ m, seenN (allN (M.take j)).1 (allN (M.take j)).2 m = decide (m ∈ M.take j) := by
  have key : ∀ i, i ≤ M.length → RightN w (allN (M.take i)).1 (allN (M.take i)).2 ∧ (allN (M.take i)).1 ≤ w ∧ ∀ m, seenN (allN (M.take i)).1 (allN (M.take i)).2 m = decide (m ∈ M.take i) := fun i hi => by
    obtain ⟨h1, h2⟩ := allN_inv hw M h.nodup h.range i hi
    refine ⟨h1, ?_, h2⟩
    rcases Nat.eq_zero_or_pos (allN (M.take i)).1 with h3 | h3
    · omega
    · have h4 := h2 (allN (M.take i)).1
      rw [seenN_low h3 (Nat.le_refl _)] at h4
      exact (h.range _ (List.mem_of_mem_take (of_decide_eq_true h4.symm))).2
  rcases Nat.le_total j M.length with h1 | h1
  · exact key j h1
  · rw [List.take_of_length_le h1]
    have := key M.length (Nat.le_refl _)
    rwa [List.take_length] at this
theorem taken_step {w : Nat} {M : List Nat} {inc wd : Int} {j : Nat} {n : Nat} (hw : w ≤ 64) (hwd : wd = (w : Int)) (h1 : 1 ≤ w) (hi : 1 ≤ inc ∧ inc ≤ 65535) (h : Fine w M) (hj : M[j]? = some n) :
    rowR (rowT inc (M.take j)) ∧ idR (0, inc, (n : Int)) ∧ rightI (rowT inc (M.take j)) wd = true ∧ mayI (rowT inc (M.take j)) (0, inc, (n : Int)) wd = true ∧ takeI (rowT inc (M.take j)) (0, inc, (n : Int)) = rowT inc (M.take (j + 1)) := by
  subst hwd
  obtain ⟨hR, hp, hs⟩ := row_bounds hw h j
  have hb := hR.lt hw
  have hjl := (List.getElem?_eq_some_iff.1 hj).1
  have hn := h.range n (List.mem_of_getElem? hj)
  have hnot : n ∉ M.take j := fun hc => by
    obtain ⟨i, hi', e2⟩ := List.mem_iff_getElem.1 hc
    rw [List.length_take] at hi'
    rw [List.getElem_take] at e2
    have := List.pairwise_iff_getElem.1 h.nodup i j (by omega) hjl (by omega)
    exact this (e2.trans (List.getElem?_eq_some_iff.1 hj).2.symm)
  have ho := rowT_of (inc := inc) (M := M.take j) hi.1
  have hseen : seenI (ofI (rowT inc (M.take j)) inc) (n : Int) = false := by
    rw [ho]
    show seenN ((allN (M.take j)).1 : Int).toNat ((allN (M.take j)).2 : Int).toNat (n : Int).toNat = false
    rw [Int.toNat_natCast, Int.toNat_natCast, Int.toNat_natCast, hs n]
    exact decide_eq_false hnot
  refine ⟨?_, ⟨(show (0 : Int) ≤ 0 ∧ (0 : Int) ≤ 255 by decide), ⟨(by show 0 ≤ inc; omega), hi.2⟩, (by show (0 : Int) ≤ n; omega), (by show (n : Int) ≤ _; omega)⟩, ?_, ?_, ?_⟩
  · unfold rowT
    split
    · exact rowR_zero (by decide)
    · exact ⟨⟨by show 0 ≤ inc; omega, hi.2⟩, ⟨by simp, by show ((allN (M.take j)).1 : Int) ≤ _; omega⟩, by simp, by show ((allN (M.take j)).2 : Int) ≤ _; omega⟩
  · unfold rightI
    rw [decide_eq_true (by omega)]
    unfold rowT
    split
    · rfl
    · simp only
      rw [if_neg (by omega), Int.toNat_natCast, Int.toNat_natCast, Int.toNat_natCast, right_iff.2 hR]; rfl
  · unfold mayI
    simp only
    rw [hseen, ho]
    simp only [Bool.not_false, Bool.and_true, decide_eq_true_eq]
    refine ⟨⟨by omega, by omega⟩, ⟨hi.1, ?_⟩, by omega, by omega⟩
    unfold rowT
    split
    · show (0 : Int) ≤ inc; omega
    · exact Int.le_refl _
  · unfold takeI
    simp only
    rw [ho, Int.toNat_natCast, Int.toNat_natCast, Int.toNat_natCast]
    have e : M.take (j + 1) = M.take j ++ [n] := by rw [List.take_add_one, hj]; rfl
    rw [e]
    unfold rowT
    rw [if_neg (by simp), allN_snoc]
/-- A block of one cell. -/
def OneB (w : World) (g : Nat) (v : Value) (t : TypeId) : Prop := w.heap[g]? = some (.cells #[v] t (0, 0))
section
variable {w w' : World} {g b : Nat} {v : Value} {t : TypeId}
theorem OneB.new (w : World) (v : Value) (t : TypeId) : OneB (w.alloc (.cells #[v] t)) w.heap.size v t := heap_alloc_new w _
theorem OneB.lt (h : OneB w g v t) : g < w.heap.size := (Array.getElem?_eq_some_iff.1 h).1
theorem OneB.next (h : OneB w g v t) (hb : Below w.heap.size w w') : OneB w' g v t := (hb.block g h.lt).trans h
theorem OneB.cell (h : OneB w g v t) : w.cell? ⟨g, 0, none⟩ = some v := by unfold OneB at h; simp [World.cell?, h]
theorem OneB.grown (h : OneB w b v t) (hg : w.grownBy w' (some g)) (hne : b ≠ g) : OneB w' b v t := (hg.block b h.lt (by simpa using hne)).trans h
end
def ML (M : List Nat) : List Value := M.map (fun (n : Nat) => .int .u32 (n : Int))
theorem ML_length (M : List Nat) : (ML M).length = M.length := by simp [ML]
theorem ML_append (M N : List Nat) : ML (M ++ N) = ML M ++ ML N := by simp [ML]
theorem ML_drop (M : List Nat) (k : Nat) : ML (M.drop k) = (ML M).drop k := by simp [ML, List.map_drop]
theorem ML_take (M : List Nat) (k : Nat) : ML (M.take k) = (ML M).take k := by simp [ML, List.map_take]
theorem ML_one (M : List Nat) : ∀ u ∈ ML M, u.oneCell' = true := by
  intro u hu; obtain ⟨n, _, rfl⟩ := List.mem_map.1 hu; rfl
abbrev Sm (w : World) (k : Nat) (A : Option Addr) (n c : Nat) (M : List Nat) : Prop := Sv w k A n c (ML M)
theorem sm_len {w : World} {k n c : Nat} {A : Option Addr} {M : List Nat} (h : Sm w k A n c M) : n = M.length := by have := h.len; rwa [ML_length] at this
theorem sm_at {w : World} {k n c : Nat} {A : Option Addr} {M : List Nat} (h : Sm w k A n c M) {j : Nat} (hj : j < n) : ∃ b off x, A = some ⟨b, off, none⟩ ∧ b < k ∧ M[j]? = some x ∧ w.cell? ⟨b, off + j, none⟩ = some (.int .u32 (x : Int)) := by
  obtain ⟨b, off, hA, hb, hc⟩ := h.at_ (by omega)
  have hl : j < M.length := by have := sm_len h; omega
  obtain ⟨x, hx⟩ : ∃ x, M[j]? = some x := ⟨M[j], by simp [hl]⟩
  exact ⟨b, off, x, hA, hb, hx, hc j _ (by simp [ML, hx])⟩
/-- What was met. -/
structure InB (w : World) (g N : Nat) (M : List Nat) (t : TypeId) : Prop where
  ex : ∃ cs, w.heap[g]? = some (.cells cs t (0, 0)) ∧ cs.size = N ∧ ∀ k, k < N → cs[k]? = some (.int .i64 (if k ∈ M then 1 else 0))
section
variable {w w' : World} {g b N : Nat} {M : List Nat} {t : TypeId}
theorem InB.lt (h : InB w g N M t) : g < w.heap.size := by obtain ⟨cs, h1, _⟩ := h; exact (Array.getElem?_eq_some_iff.1 h1).1
theorem InB.next (h : InB w g N M t) (hb : Below w.heap.size w w') : InB w' g N M t := by
  have hl := h.lt
  obtain ⟨cs, h1, r⟩ := h
  exact ⟨cs, (hb.block g hl).trans h1, r⟩
theorem InB.grown (h : InB w b N M t) (hg : w.grownBy w' (some g)) (hne : b ≠ g) : InB w' b N M t := by
  have hl := h.lt
  obtain ⟨cs, h1, r⟩ := h
  exact ⟨cs, (hg.block b hl (by simpa using hne)).trans h1, r⟩
theorem InB.cell (h : InB w g N M t) {k : Nat} (hk : k < N) : w.cell? ⟨g, k, none⟩ = some (.int .i64 (if k ∈ M then 1 else 0)) := by
  obtain ⟨cs, h1, _, h3⟩ := h
  unfold World.cell?
  simp only [h1]
  exact h3 k hk
theorem InB.free (h : InB w g N M t) (k : Nat) : w.frozen? ⟨g, k, none⟩ = false := by
  obtain ⟨cs, h1, _⟩ := h
  simp [World.frozen?, h1]
theorem InB.set (h : InB w g N M t) {k : Nat} (hk : k < N) : InB (w.setCell ⟨g, k, none⟩ (.int .i64 1)) g N (M ++ [k]) t := by
  obtain ⟨cs, h1, h2, h3⟩ := h
  refine ⟨cs.setIfInBounds k (.int .i64 1), Go.Joins.block_setCell (i := k) h1 (.int .i64 1), by simp [h2], fun j hj => ?_⟩
  by_cases e : k = j
  · subst e
    rw [Array.getElem?_setIfInBounds_self_of_lt (by omega)]
    simp
  · rw [Array.getElem?_setIfInBounds_ne e, h3 j hj]
    have : (j ∈ M ++ [k]) ↔ j ∈ M := by simp; omega
    simp only [this]
theorem InB.made (h : Own w b t (some ⟨g, 0, none⟩) N N (List.replicate N (.int .i64 0))) (hN : 0 < N) : InB w g N [] t := by
  obtain ⟨h1, h2⟩ := h
  rcases h2 with ⟨hv, _⟩ | ⟨g', cap, cur, hv, _, hh, hn, _, hs, ht⟩
  · cases hv
  · injection hv with e1 e2 e3
    injection e1 with e1
    injection e1 with e1
    subst e1 e3
    refine ⟨cur, hh, by simpa using hs, fun k hk => ?_⟩
    have e4 : cur.toList = List.replicate N (.int .i64 0) := by
      rw [← ht, List.take_of_length_le]
      simp [hs]
    rw [← Array.getElem?_toList, e4]
    simp [hk]
end
end Go.Proofs.YtkdlgejkgcojkaaDoor
