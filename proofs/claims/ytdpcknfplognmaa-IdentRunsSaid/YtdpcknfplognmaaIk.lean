/- Layer 7: slices.IndexFunc, DeleteFunc at ids; ident.Drop. -/
import Derived.Test.YtdpcknfplognmaaIj
import Derived.Laws.IdiomCopy
import Derived.Lib.LazyBuf
namespace Go.Proofs.Ytdpcknfplognmaa
open Go.RowKit
set_option linter.unusedVariables false
theorem indexf_any (A : Option Addr) (n c : Nat) (l : List Id3) (g B : Nat) (x : Id3) (p : Id3 → Bool) (eg : ∀ args w, (callFunc g args).run Try.prog w = .ok (.enter g args) w) (hp : PredP g B x p) (w : World) (hB : IdBlk w B x) (h : Sd w w.heap.size A n c l) :
    Calls Try.prog 41 #[.slice A n c, .func (.func g) #[] #[.pointer (some ⟨B, 0, none⟩)]] w fun e w' => e = .returned (.int .i64 (if l.findIdx p < n then ((l.findIdx p : Nat) : Int) else -1)) ∧ Below w.heap.size w w' := by
  have HL : Hid (n = l.length) := sd_len h
  have hm := h.max
  have hc := h.cap
  unfold maxLen at hm
  have HS := Lib.hid h
  have HB := Lib.hid hB
  have HP := Lib.hid hp
  clear h hB hp
  obtain ⟨R, HR⟩ : ∃ R : Int, Hid ((if l.findIdx p < n then ((l.findIdx p : Nat) : Int) else -1) = R) := ⟨_, rfl⟩
  rw [HR.out]
  go_enter Try.func41, Try.ntmps41
  go_wp2
  go_loopw [5, 8] (fun _ i wr => ∃ j : Nat, j ≤ n ∧ i = .int .i64 j ∧ Hid ((l.drop j).findIdx p + j = l.findIdx p) ∧ Hid (Below w.heap.size w wr)) (fun _ i _ => n - (intOf i).toNat)
  case atStart => exact ⟨0, Nat.zero_le _, rfl, rfl, Below.refl _ _⟩
  case round =>
    obtain ⟨j, hj, rfl, HO, b1⟩ := hrel
    have i0 : (0 : Int) ≤ (j : Int) := by omega
    by_cases hlt : j < n
    · have i1 : (j : Int) < (n : Int) := by omega
      obtain ⟨b, off, y, rfl, hb, hy, c0, c1, c2⟩ := sd_at (HS.out.next b1.out) hlt
      have HF := Lib.hid (fi_drop (p := p) hy)
      have hcall := HP.out _ y (HB.out.next b1.out)
      clear hy
      cases hq : p y with
      | true =>
        rw [hq] at hcall
        have HF2 : Hid (R = j) := by
          have h1 := HF.out
          rw [hq, if_pos rfl] at h1
          have h2 := HO.out
          have h3 : l.findIdx p = j := by omega
          unfold Hid
          rw [← HR.out, h3, if_pos hlt]
        clear HF
        go_wp2_with fail
        refine hcall.mono ?_
        rintro e w' ⟨rfl, hb'⟩
        go_wp2
        go_ret
        exact ⟨by rw [HF2.out]; rfl, thn b1.out hb'⟩
      | false =>
        rw [hq] at hcall
        have HF2 : Hid ((l.drop (j + 1)).findIdx p + (j + 1) = l.findIdx p) := by have h1 := HF.out; rw [hq, if_neg (by decide)] at h1; have h2 := HO.out; unfold Hid; omega
        clear HF
        go_wp2_with fail
        refine hcall.mono ?_
        rintro e w' ⟨rfl, hb'⟩
        go_wp2
        have B3 := Lib.hid (thn b1.out hb')
        clear hb'
        go_roundw
        case rel => exact ⟨j + 1, by omega, by go_num, HF2, B3⟩
        case measure => simp [intOf]; omega
    · obtain rfl : j = n := by omega
      have HF2 : Hid (R = -1) := by
        have h1 := HO.out
        rw [List.drop_of_length_le (by rw [← HL.out]; exact Nat.le_refl _)] at h1
        have h3 : l.findIdx p = j := by simpa using h1.symm
        unfold Hid
        rw [← HR.out, h3, if_neg (by omega)]
      go_wp2
      go_ret
      exact ⟨by rw [HF2.out]; rfl, b1.out⟩
section
variable {w : World} {B : Nat} {E : TypeId} {s g n c : Nat} {xs : List Value}
theorem Ows.row (h : Ows w B E s (some ⟨g, 0, none⟩) n c xs) : B ≤ g ∧ ∃ cur, w.heap[g]? = some (.cells cur E (0, 0)) ∧ n ≤ c ∧ c ≤ maxLen ∧ cur.size = c * s ∧ cur.toList.take (n * s) = xs := by
  rcases h.2 with ⟨hv, _⟩ | ⟨g', cap, cur, hv, hB, hh, r⟩
  · injection hv with e; cases e
  · injection hv with e1 e2 e3
    injection e1 with e1
    injection e1 with e1
    subst e1 e3
    exact ⟨hB, cur, hh, r⟩
theorem Ows.set (h : Ows w B E s (some ⟨g, 0, none⟩) n c xs) (t : Nat) (v : Value) : Ows (w.setCell ⟨g, t, none⟩ v) B E s (some ⟨g, 0, none⟩) n c (xs.set t v) := by
  obtain ⟨hB, cur, hh, h1, h2, h3, h4⟩ := h.row
  refine ⟨by rw [List.length_set]; exact h.1, .inr ⟨g, c, cur.setIfInBounds t v, rfl, hB, ?_, h1, h2, by simp [h3], ?_⟩⟩
  · simp [World.setCell, Array.getElem?_modify, hh]
  · rw [← h4, Array.toList_setIfInBounds, List.take_set]
theorem Ows.there (h : Ows w B E s (some ⟨g, 0, none⟩) n c xs) (t : Nat) (ht : t < c * s) : (w.cell? ⟨g, t, none⟩).isSome = true ∧ w.frozen? ⟨g, t, none⟩ = false := by
  obtain ⟨hB, cur, hh, h1, h2, h3, h4⟩ := h.row
  refine ⟨?_, by simp [World.frozen?, hh]⟩
  rw [cell_of_row w g t cur E (0, 0) hh, Array.getElem?_eq_getElem (by omega)]
  rfl
end
theorem set3 {a b c v : Value} {t : List Value} {k m : Nat} (h : m = k + 3) : (a :: b :: c :: t).set m v = a :: b :: c :: t.set k v := by subst h; rfl
theorem idl_set : ∀ (d : List Id3) (i : Nat) (p : Id3), i < d.length → (((idl d).set (i * 3) (.int .u8 p.1)).set (i * 3 + 1) (.int .u16 p.2.1)).set (i * 3 + 2) (.int .u32 p.2.2) = idl (d.set i p)
  | [], i, p, h => by simp at h
  | q :: d, 0, p, h => by simp [idl_cons]
  | q :: d, i + 1, p, h => by
    rw [idl_cons, set3 (k := i * 3) (by omega), set3 (k := i * 3 + 1) (by omega), set3 (k := i * 3 + 2) (by omega), idl_set d i p (by simpa using h), List.set_cons_succ, idl_cons]
/-- What the second loop keeps: the first i are what is kept of the first j, the rest is as it was. -/
structure Kept (q : Id3 → Bool) (l d : List Id3) (j i : Nat) : Prop where
  size : d.length = l.length
  lt : i < j
  le : j ≤ l.length
  low : d.take i = (l.take j).filter q
  high : ∀ t, i ≤ t → d[t]? = l[t]?
theorem Kept.start {q : Id3 → Bool} {l : List Id3} {k : Nat} (hk : k < l.length) (h1 : ∀ t, t < k → ∀ y, l[t]? = some y → q y = true) (h2 : ∀ y, l[k]? = some y → q y = false) : Kept q l l (k + 1) k where
  size := rfl
  lt := Nat.lt_succ_self _
  le := hk
  low := by
    rw [List.take_add_one, List.getElem?_eq_getElem hk, List.filter_append]
    have e1 : (l.take k).filter q = l.take k := List.filter_eq_self.2 fun y hy => by
      obtain ⟨t, ht, rfl⟩ := List.mem_iff_getElem.1 hy
      rw [List.length_take] at ht
      exact h1 t (by omega) _ (by rw [List.getElem_take]; exact List.getElem?_eq_getElem _)
    have e2 := h2 _ (List.getElem?_eq_getElem hk)
    rw [e1]
    simp [e2]
  high := fun _ _ => rfl
theorem Kept.skip {q : Id3 → Bool} {l d : List Id3} {j i : Nat} {y : Id3} (h : Kept q l d j i) (hy : l[j]? = some y) (hq : q y = false) : Kept q l d (j + 1) i where
  size := h.size
  lt := Nat.lt_succ_of_lt h.lt
  le := (List.getElem?_eq_some_iff.1 hy).1
  low := by rw [h.low, List.take_add_one, hy, List.filter_append]; simp [hq]
  high := h.high
theorem Kept.keep {q : Id3 → Bool} {l d : List Id3} {j i : Nat} {y : Id3} (h : Kept q l d j i) (hy : l[j]? = some y) (hq : q y = true) : Kept q l (d.set i y) (j + 1) (i + 1) where
  size := by rw [List.length_set]; exact h.size
  lt := Nat.succ_lt_succ h.lt
  le := (List.getElem?_eq_some_iff.1 hy).1
  low := by
    have hi : i < d.length := by have := h.lt; have := h.le; have := h.size; omega
    have e : (d.set i y).take i = d.take i := List.take_set_of_le (Nat.le_refl _)
    rw [List.take_add_one, e, h.low, List.getElem?_set_self hi, List.take_add_one, hy, List.filter_append]
    simp [hq]
  high := fun t ht => by rw [List.getElem?_set_ne (by omega)]; exact h.high t (by omega)
theorem Kept.done {q : Id3 → Bool} {l d : List Id3} {i : Nat} (h : Kept q l d l.length i) : d.take i = l.filter q := by rw [h.low, List.take_length]
theorem run_clear_n {P : Program} {w : World} {t e : TypeId} {z : Value} {s : Nat} (ht : P.underlying t = some (.slice e)) (hv : ∀ w, (zeroValue e).run P w = .ok z w) (hz : z.cells.size = s) (h1 : ∀ u ∈ z.cells.toList, u.oneCell' = true) (b o n c : Nat) (hn : 0 < n)
    (hc : ∀ j, j < n * s → (w.cell? ⟨b, o + j, none⟩).isSome = true) (hf : ∀ j, j < n * s → w.frozen? ⟨b, o + j, none⟩ = false) :
    ∃ vs : List Value, vs.length = n * s ∧ ∀ ty, (Builtin.clear_ #[t] ty #[.slice (some ⟨b, o, none⟩) n c]).run P w = .ok (.tuple #[]) (w.setCells b o vs) := by
  have hlen : (Builtin.zeroCells z.cells n).toList.length = n * s := by simp [Builtin.zeroCells, hz]
  refine ⟨(Builtin.zeroCells z.cells n).toList, hlen, fun ty => ?_⟩
  have hst := run_storeCells_cells (P := P) b o (Builtin.zeroCells z.cells n).toList 0 w (by rw [hlen]; simpa using hc) (by rw [hlen]; simpa using hf) (by
    intro v hv'
    simp only [Builtin.zeroCells, Array.toList_map, List.mem_map] at hv'
    obtain ⟨i, hi, rfl⟩ := hv'
    have hs0 : 0 < z.cells.size := by
      rcases Nat.eq_zero_or_pos z.cells.size with h0 | h0
      · rw [h0] at hi; simp at hi
      · exact h0
    have hm := Nat.mod_lt i hs0
    rw [getElem!_pos z.cells _ hm]
    exact h1 _ (by simp))
  simp only [Nat.add_zero] at hst
  obtain ⟨m, rfl⟩ : ∃ m, n = m + 1 := ⟨n - 1, by omega⟩
  simp [Builtin.clear_, run_underlying ht, hv, hst]
theorem Sn.cleared {w : World} {k s g i c : Nat} {xs : List Value} (h : Sn w k s (some ⟨g, 0, none⟩) i c xs) (vs : List Value) (o : Nat) (ho : i * s ≤ o) : Sn (w.setCells g o vs) k s (some ⟨g, 0, none⟩) i c xs :=
  ⟨h.len, h.cap, h.max, fun hn => by
    obtain ⟨b, off, e, hb, hc⟩ := h.at_ hn
    injection e with e
    injection e with e1 e2
    subst e1 e2
    refine ⟨g, 0, rfl, hb, fun j u hu => ?_⟩
    have hj : j < i * s := by
      rcases Nat.lt_or_ge j (i * s) with h5 | h5
      · exact h5
      · rw [List.getElem?_eq_none (by rw [h.len]; exact h5)] at hu; cases hu
    rw [World.cell?_setCells_out g vs o w ⟨g, 0 + j, none⟩ (fun _ _ => .inl (by simp; omega))]
    exact hc j u hu⟩
end Go.Proofs.Ytdpcknfplognmaa
