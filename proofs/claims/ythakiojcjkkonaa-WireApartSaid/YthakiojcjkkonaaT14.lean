import Derived.Test.YthakiojcjkkonaaT11
namespace Go.Proofs.Ythakiojcjkkonaa
open Go.RowKit
set_option linter.unusedVariables false

/-- Bytes that may be written: from block B on. -/
def Wb (w : World) (B : Nat) (A : Option Addr) (n : Nat) : Prop := 0 < n → ∃ g cur, A = some ⟨g, 0, none⟩ ∧ B ≤ g ∧ w.heap[g]? = some (.cells cur 5 (0, 0)) ∧ ∀ j, j < n → ∃ u : UInt8, cur[j]? = some (Bv u)
theorem Wb.of_own {w : World} {B : Nat} {A : Option Addr} {n c : Nat} {l : List UInt8} (h : Own w B 5 A n c (l.map Bv)) : Wb w B A n := by
  intro hn
  obtain ⟨h1, ⟨_, h0⟩ | ⟨g, cap, cur, hv, hB, hg, _, _, _, ht⟩⟩ := h
  · omega
  · injection hv with a
    refine ⟨g, cur, a, hB, hg, fun j hj => ?_⟩
    have hjl : j < l.length := by simp at h1; omega
    refine ⟨l[j], ?_⟩
    have : (l.map Bv)[j]? = some (Bv l[j]) := by simp [List.getElem?_eq_getElem hjl]
    rw [← ht, List.getElem?_take] at this
    split at this
    · simpa using this
    · cases this
theorem Wb.below {w w' : World} {B : Nat} {A : Option Addr} {n : Nat} (h : Wb w B A n) (hb : Below w.heap.size w w') : Wb w' B A n := by
  intro hn
  obtain ⟨g, cur, a, hB, hg, hu⟩ := h hn
  exact ⟨g, cur, a, hB, by rw [hb.block g (Array.getElem?_eq_some_iff.1 hg).1]; exact hg, hu⟩
theorem Wb.set {w : World} {B : Nat} {A : Option Addr} {n : Nat} (h : Wb w B A n) (g' i : Nat) (x : Value) (v : UInt8) (hx : x = Bv v) : Wb (w.setCell ⟨g', i, none⟩ x) B A n := by
  subst hx
  intro hn
  obtain ⟨g, cur, a, hB, hg, hu⟩ := h hn
  by_cases e : g' = g
  · subst e
    refine ⟨g', cur.setIfInBounds i (Bv v), a, hB, by simp [World.setCell, Array.getElem?_modify, hg], fun j hj => ?_⟩
    obtain ⟨u, hju⟩ := hu j hj
    rw [Array.getElem?_setIfInBounds]
    split
    · split
      · exact ⟨v, rfl⟩
      · rename_i e1 e2
        subst e1
        rw [Array.getElem?_eq_none (by omega)] at hju
        cases hju
    · exact ⟨u, hju⟩
  · exact ⟨g, cur, a, hB, by rw [Below.heap_setCell _ _ _ _ (by exact fun e' => e e'.symm)]; exact hg, hu⟩
theorem Wb.cell {w : World} {B : Nat} {A : Option Addr} {n : Nat} (h : Wb w B A n) {j : Nat} (hj : j < n) : ∃ (g : Nat) (u : UInt8) (cur : Array Value), A = some ⟨g, 0, none⟩ ∧ B ≤ g ∧ w.heap[g]? = some (.cells cur 5 (0, 0)) ∧ w.cell? ⟨g, j, none⟩ = some (.int .u8 (u.toNat : Int)) ∧ w.frozen? ⟨g, j, none⟩ = false := by
  obtain ⟨g, cur, a, hB, hg, hu⟩ := h (by omega)
  obtain ⟨u, hju⟩ := hu j hj
  exact ⟨g, u, cur, a, hB, hg, by rw [cell_of_row w g j cur 5 (0, 0) hg, hju]; rfl, by simp [World.frozen?, hg]⟩

/-- All the rows that are written over, the row of rows, and what stands below. -/
structure Over (w0 : World) (G : Nat) (ss : List (Option Addr × Nat × Nat)) (w : World) : Prop where
  each : ∀ s ∈ ss, Wb w w0.heap.size s.1 s.2.1
  row : w.heap[G]? = some (.cells (ss.map fun s => Value.slice s.1 s.2.1 s.2.2).toArray 22 (0, 0))
  below : Below w0.heap.size w0 w
theorem Over.set {w0 w : World} {G : Nat} {ss : List (Option Addr × Nat × Nat)} (h : Over w0 G ss w) {g i : Nat} {cur : Array Value} (hB : w0.heap.size ≤ g) (hg : w.heap[g]? = some (.cells cur 5 (0, 0))) (x : Value) (v : UInt8) (hx : x = Bv v) : Over w0 G ss (w.setCell ⟨g, i, none⟩ x) := by
  have hne : G ≠ g := by
    rintro rfl
    rw [h.row] at hg
    injection hg with hg
    injection hg with _ e
    cases e
  exact ⟨fun s hs => (h.each s hs).set g i x v hx, by rw [Below.heap_setCell _ _ _ _ hne]; exact h.row, h.below.setCell hB x⟩
theorem Over.at_ {w0 w : World} {G : Nat} {ss : List (Option Addr × Nat × Nat)} (h : Over w0 G ss w) {j : Nat} (hj : j < ss.length) : ∃ A n c, (A, n, c) ∈ ss ∧ w.cell? ⟨G, j, none⟩ = some (.slice A n c) := by
  refine ⟨ss[j].1, ss[j].2.1, ss[j].2.2, List.getElem_mem hj, ?_⟩
  rw [cell_of_row w G j _ 22 (0, 0) h.row]
  simp [List.getElem?_eq_getElem hj]

theorem put_head (A : Option Addr) (c k x r : Nat) (l : List UInt8) (w : World) (h : Sl w k A 1 c l) (hk : k ≤ w.heap.size) (hx : x ≤ 18446744073709551615) (hr : r ≤ 7) :
    Calls Try.prog 14 #[.slice A 1 c, .int .u64 x, .int .i64 (1 + r)] w fun e w' => ∃ A' c' l', e = .returned (.slice A' (2 + r) c') ∧ Own w' w.heap.size 5 A' (2 + r) c' (List.map Bv l') ∧ Below w.heap.size w w' :=
  (put_any A 1 c k l x (1 + r) w h hk hx (by omega) (by omega)).mono fun e w' ⟨A', c', he, ho, hb⟩ => by
    rw [toNat_one, show 1 + (1 + r) = 2 + r from by omega] at he ho
    exact ⟨A', c', _, he, ho, hb⟩
theorem putText_head (A : Option Addr) (c : Nat) (l : List UInt8) (A' : Option Addr) (n' c' : Nat) (t : List UInt8) (w : World) (h : Sl w w.heap.size A 1 c l) (h' : Sl w w.heap.size A' n' c' t) (hn : n' ≤ 100) :
    Calls Try.prog 16 #[.slice A 1 c, .slice A' n' c'] w fun e w' => ∃ A2 c2 l', e = .returned (.slice A2 (3 + n') c2) ∧ Own w' w.heap.size 5 A2 (3 + n') c2 (List.map Bv l') ∧ Below w.heap.size w w' :=
  (putText_made A 1 c l A' n' c' t w h h' (by omega) (by omega)).mono fun e w' ⟨A2, c2, he, ho, hb⟩ => by
    have e1 := sl_len h
    have e2 := sl_len h'
    have e3 : (putTextF l t).length = 3 + n' := by rw [putTextF, if_pos (by omega), List.length_append, List.length_append, be_length]; omega
    rw [e3] at he ho
    exact ⟨A2, c2, _, he, ho, hb⟩
theorem take_some (A : Option Addr) (n c : Nat) (l : List UInt8) (m : Int) (w : World) (h : Sl w w.heap.size A n c l) (hn : n ≤ 100) :
    Calls Try.prog 9 #[.slice A n c, .int .i64 m] w fun e w' => ∃ N A' n' c' l' ok, e = .returned (.tuple #[.int .u64 N, .slice A' n' c', .bool ok]) ∧ n' ≤ 100 ∧ Own w' w.heap.size 5 A' n' c' (List.map Bv l') ∧ Below w.heap.size w w' :=
  (take_any A n c _ l m w h (Nat.le_refl _) (by omega)).mono fun e w' ⟨A2, c2, he, ho, hb⟩ => by
    have e1 := sl_len h
    refine ⟨_, _, _, _, _, _, he, ?_, ho, hb⟩
    unfold takeR
    split
    · rw [List.length_drop]; omega
    · simp
theorem text_some (A : Option Addr) (n c : Nat) (l : List UInt8) (m : Int) (w : World) (h : Sl w w.heap.size A n c l) (hn : n ≤ 100) :
    Calls Try.prog 11 #[.slice A n c, .int .i64 m] w fun e w' => ∃ A1 n1 c1 l1 A2 n2 c2 l2 ok, e = .returned (.tuple #[.slice A1 n1 c1, .slice A2 n2 c2, .bool ok]) ∧ n1 ≤ 100 ∧ n2 ≤ 100 ∧
      Own w' w.heap.size 5 A1 n1 c1 (List.map Bv l1) ∧ Own w' w.heap.size 5 A2 n2 c2 (List.map Bv l2) ∧ Below w.heap.size w w' :=
  (text_any A n c l m w h (by omega)).mono fun e w' ⟨A1, c1, A2, c2, he, ho, ho2, _, hb⟩ => by
    have e1 := sl_len h
    refine ⟨_, _, _, _, _, _, _, _, _, he, ?_, ?_, ho, ho2, hb⟩
    · unfold textT
      split
      · rw [List.length_take, List.length_drop]; omega
      · simp
    · unfold textR
      split
      · rw [List.length_drop, List.length_drop]; omega
      · simp

set_option maxHeartbeats 1000000 in
theorem apart_x (A : Option Addr) (n c : Nat) (l : List UInt8) (x r : Nat) (u : Int) (A' : Option Addr) (n' c' : Nat) (t : List UInt8) (w : World) (h : Sl w w.heap.size A n c l) (h' : Sl w w.heap.size A' n' c' t)
    (hx : (x : Int) ≤ 18446744073709551615) (hu : 0 ≤ u ∧ u ≤ 255) (hk : u % 8 = r) (h2 : 2 ≤ (n : Int)) (hn : (n : Int) ≤ 100) (hn' : (n' : Int) ≤ 100) :
    Calls Try.prog 7 #[.slice A n c, .int .u64 x, .int .u8 u, .slice A' n' c'] w fun e w' => e = .returned (.bool true) ∧ Below w.heap.size w w' := by
  have E : Env w [(A, n, c, l.map Bv), (A', n', c', t.map Bv)] := ((Env.nil w).add h').add h
  have hB := Below.refl w.heap.size w
  have r7 : r ≤ 7 := by omega
  have r7' : (r : Int) ≤ 7 := by omega
  have u0 := hu.1
  have u1 := hu.2
  have hT : Hid (n' = t.length) := sl_len h'
  clear h h' hu
  go_enter Try.func7, Try.ntmps7
  go_wp2_with (first
    | (at_builtin; go_must (refine wpList_app rfl _ _ 22 rfl Try.underlying22 info5 rfl rfl (Own.lit0 _ 5) rfl (by first | exact (E.next (below_lit _ _)).hd | exact (E.next (below_lit _ _)).tl.hd | exact (E.next (below_lit _ _)).tl.tl.hd | exact (E.next (below_lit _ _)).tl.tl.tl.hd | exact (E.next (below_lit _ _)).tl.tl.tl.tl.hd) (Bv_one _) (by omega) (by decide) (by simp) ?_); intro A1 c1 w1 o1 g1; have b1 := ((Below.refl _ _).alloc (Nat.le_refl _) _).grown g1 (by simp) (Own.lit0 _ 5).lt; rw [Nat.zero_add, List.nil_append] at o1; replace E := (E.next b1).add o1.sv; replace hB := thn hB b1; have cap1 := o1.sv.cap; have hd := o1.sv.upto (hi := 1) (by omega); rw [← List.map_take] at hd; clear g1 b1 o1)
    | (go_at_call 14; go_must (refine (put_head _ _ _ x r _ _ (by exact hd) (Nat.le_refl _) (by omega) (by omega)).mono ?_); rintro e w2 ⟨A2, c2, l2, rfl, o2, b2⟩)
    | (go_at_call 16; go_must (refine (putText_head _ _ _ _ _ _ t _ (by exact hd.next b2) (by exact (E.next b2).tl.tl.hd) (by omega)).mono ?_); rintro e w3 ⟨A3, c3, l3, rfl, o3, b3⟩)
    | (go_at_call 9; go_must (refine (take_some _ _ _ l _ _ (by exact ((E.next b2).next b3).hd) (by omega)).mono ?_); rintro e w4 ⟨N4, A4, n4, c4, l4, ok4, rfl, h4, o4, b4⟩)
    | (go_at_call 11; go_must (refine (text_some _ _ _ l _ _ (by exact (((E.next b2).next b3).next b4).hd) (by omega)).mono ?_); rintro e w5 ⟨A5, n5, c5, l5, A6, n6, c6, l6, ok5, rfl, h5, h6, o5, o6, b5⟩))
  have bl := thn (thn (thn b2 b3) b4) b5
  have z2 := b2.size
  have z3 := b3.size
  have z4 := b4.size
  have hO : Over w1 w5.heap.size [(A2, 2 + r, c2), (A3, 3 + n', c3), (A4, n4, c4), (A5, n5, c5), (A6, n6, c6)] (w5.alloc (.cells #[.slice A2 (2 + r) c2, .slice A3 (3 + n') c3, .slice A4 n4 c4, .slice A5 n5 c5, .slice A6 n6 c6] 22)) := by
    refine ⟨fun s hs => ?_, heap_alloc_new w5 _, bl.alloc bl.size _⟩
    refine Wb.below (w := w5) ?_ (below_lit w5 _)
    simp only [List.mem_cons, List.not_mem_nil, or_false] at hs
    rcases hs with rfl | rfl | rfl | rfl | rfl
    · exact Wb.of_own (((o2.below b3).below b4).below b5)
    · exact Wb.of_own (((o3.mono z2).below b4).below b5)
    · exact Wb.of_own ((o4.mono (by omega)).below b5)
    · exact Wb.of_own (o5.mono (by omega))
    · exact Wb.of_own (o6.mono (by omega))
  have hlen : ∀ s ∈ [(A2, 2 + r, c2), (A3, 3 + n', c3), (A4, n4, c4), (A5, n5, c5), (A6, n6, c6)], s.2.1 ≤ 1000 := by
    intro s hs
    simp only [List.mem_cons, List.not_mem_nil, or_false] at hs
    rcases hs with rfl | rfl | rfl | rfl | rfl <;> simp <;> omega
  have HLEN := hlen
  have hss : [(A2, 2 + r, c2), (A3, 3 + n', c3), (A4, n4, c4), (A5, n5, c5), (A6, n6, c6)].length = 5 := rfl
  have Hlen : Hid (∀ s ∈ [(A2, 2 + r, c2), (A3, 3 + n', c3), (A4, n4, c4), (A5, n5, c5), (A6, n6, c6)], s.2.1 ≤ 1000) := hlen
  have Hss : Hid ([(A2, 2 + r, c2), (A3, 3 + n', c3), (A4, n4, c4), (A5, n5, c5), (A6, n6, c6)].length = 5) := rfl
  clear hlen HLEN hss o2 o3 o4 o5 o6 b2 b3 b4 bl hd z2 z3 z4
  generalize [(A2, 2 + r, c2), (A3, 3 + n', c3), (A4, n4, c4), (A5, n5, c5), (A6, n6, c6)] = ss at *
  generalize (w5.alloc (.cells #[.slice A2 (2 + r) c2, .slice A3 (3 + n') c3, .slice A4 n4 c4, .slice A5 n5 c5, .slice A6 n6 c6] 22)) = w6 at *
  go_loopw [73] (fun i wr => ∃ j : Nat, j ≤ 5 ∧ i = .int .i64 j ∧ Over w1 w5.heap.size ss wr) (fun i _ => 5 - (intOf i).toNat)
  case atStart => exact ⟨0, by omega, rfl, hO⟩
  case round =>
    obtain ⟨j, hj, rfl, hO2⟩ := hrel
    clear hO
    by_cases hlt : j < 5
    · obtain ⟨A7, n7, c7, hm7, hc7⟩ := hO2.at_ (j := j) (by rw [Hss.out]; exact hlt)
      have hn7 : n7 ≤ 1000 := Hlen.out _ hm7
      obtain ⟨wo, rfl⟩ : ∃ wo : World, wo = wr := ⟨_, rfl⟩
      go_wp2_with fail
      clear hc7
      go_loopw [79] (fun i wr => ∃ q : Nat, q ≤ n7 ∧ i = .int .i64 q ∧ Over w1 w5.heap.size ss wr) (fun i _ => n7 - (intOf i).toNat)
      case atStart => exact ⟨0, by omega, rfl, hO2⟩
      case round =>
        obtain ⟨q, hq, rfl, hO3⟩ := hrel
        clear hO2
        by_cases hlt2 : q < n7
        · obtain ⟨g, v, cur, rfl, hB7, hg7, hc7, hf7⟩ := (hO3.each _ hm7).cell hlt2
          have hv := v.toNat_lt
          have HO : Hid (∀ x : Value, x = Bv (v + 1) → Over w1 w5.heap.size ss (wr.setCell ⟨g, q, none⟩ x)) := fun x hx => hO3.set hB7 hg7 x (v + 1) hx
          clear hg7 hO3
          go_wp2
          go_roundw
          case rel => exact ⟨q + 1, by omega, by go_num, HO.out _ (by simp [Bv, UInt8.toNat_add])⟩
          case measure => simp [intOf]; omega
        · obtain rfl : q = n7 := by omega
          go_wp2
          go_roundw
          case rel => exact ⟨j + 1, by omega, by go_num, hO3⟩
          case measure => simp [intOf]; omega
    · replace hB := thn hB hO2.below
      replace E := E.next hO2.below
      clear hO2
      have k1 : ((2 + r : Nat) : Int) = 1 + (1 + r) := by omega
      go_wp2_with (first
        | (go_at_call 13; go_must (refine (same_eq _ _ _ _ _ _ _ _ _ _ _ (by first | exact E.hd | exact E.tl.hd | exact E.tl.tl.hd | exact E.tl.tl.tl.hd | exact E.tl.tl.tl.tl.hd | exact E.tl.tl.tl.tl.tl.hd | exact E.tl.tl.tl.tl.tl.tl.hd | exact E.tl.tl.tl.tl.tl.tl.tl.hd | exact E.hd.cast (by omega) | exact E.tl.hd.cast (by omega) | exact E.tl.tl.hd.cast (by omega) | exact E.tl.tl.tl.hd.cast (by omega) | exact E.tl.tl.tl.tl.hd.cast (by omega) | exact E.tl.tl.tl.tl.tl.hd.cast (by omega) | exact E.tl.tl.tl.tl.tl.tl.hd.cast (by omega) | exact E.tl.tl.tl.tl.tl.tl.tl.hd.cast (by omega)) (by first | exact E.hd | exact E.tl.hd | exact E.tl.tl.hd | exact E.tl.tl.tl.hd | exact E.tl.tl.tl.tl.hd | exact E.tl.tl.tl.tl.tl.hd | exact E.tl.tl.tl.tl.tl.tl.hd | exact E.tl.tl.tl.tl.tl.tl.tl.hd | exact E.hd.cast (by omega) | exact E.tl.hd.cast (by omega) | exact E.tl.tl.hd.cast (by omega) | exact E.tl.tl.tl.hd.cast (by omega) | exact E.tl.tl.tl.tl.hd.cast (by omega) | exact E.tl.tl.tl.tl.tl.hd.cast (by omega) | exact E.tl.tl.tl.tl.tl.tl.hd.cast (by omega) | exact E.tl.tl.tl.tl.tl.tl.tl.hd.cast (by omega)) rfl).mono ?_); rintro e w7 ⟨rfl, rfl⟩)
        | (go_at_call 8; go_must (refine (awake_any _).mono ?_); rintro e w7 ⟨rfl, b7⟩; replace hB := thn hB b7; clear b7))
      go_ret
      exact ⟨rfl, hB⟩

theorem apart_great (A : Option Addr) (n c : Nat) (x u : Int) (A' : Option Addr) (n' c' : Nat) (w : World) (hn : (n : Int) < 2 ∨ 100 < (n : Int) ∨ 100 < (n' : Int)) :
    Calls Try.prog 7 #[.slice A n c, .int .u64 x, .int .u8 u, .slice A' n' c'] w fun e w' => e = .returned (.bool true) ∧ Below w.heap.size w w' := by
  by_cases h1 : (n : Int) < 2
  · clear hn
    go_enter Try.func7, Try.ntmps7
    go_wp2_with (go_at_call 8; go_must (refine (awake_any _).mono ?_); rintro e w1 ⟨rfl, b1⟩)
    go_ret
    exact ⟨rfl, b1⟩
  · by_cases h2 : 100 < (n : Int)
    · clear hn
      go_enter Try.func7, Try.ntmps7
      go_wp2_with (go_at_call 8; go_must (refine (awake_any _).mono ?_); rintro e w1 ⟨rfl, b1⟩)
      go_ret
      exact ⟨rfl, b1⟩
    · have h3 : 100 < (n' : Int) := by omega
      clear hn
      go_enter Try.func7, Try.ntmps7
      go_wp2_with (go_at_call 8; go_must (refine (awake_any _).mono ?_); rintro e w1 ⟨rfl, b1⟩)
      go_ret
      exact ⟨rfl, b1⟩

theorem apart_any (A : Option Addr) (n c : Nat) (l : List UInt8) (x u : Int) (A' : Option Addr) (n' c' : Nat) (t : List UInt8) (w : World) (h : Sl w w.heap.size A n c l) (h' : Sl w w.heap.size A' n' c' t)
    (hx : 0 ≤ x ∧ x ≤ 18446744073709551615) (hu : 0 ≤ u ∧ u ≤ 255) :
    Calls Try.prog 7 #[.slice A n c, .int .u64 x, .int .u8 u, .slice A' n' c'] w fun e w' => e = .returned (.bool true) ∧ Below w.heap.size w w' := by
  by_cases hn : (n : Int) < 2 ∨ 100 < (n : Int) ∨ 100 < (n' : Int)
  · exact apart_great A n c x u A' n' c' w hn
  · obtain ⟨x, rfl⟩ := Int.eq_ofNat_of_zero_le hx.1
    obtain ⟨r, hr⟩ := Int.eq_ofNat_of_zero_le (show 0 ≤ u % 8 by omega)
    exact apart_x A n c l x r u A' n' c' t w h h' hx.2 hu hr (by omega) (by omega) (by omega)
end Go.Proofs.Ythakiojcjkkonaa
