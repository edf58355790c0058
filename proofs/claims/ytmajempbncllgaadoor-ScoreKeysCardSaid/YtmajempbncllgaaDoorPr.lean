/- Layer 5: filter.pairs: two lists gone through side by side. -/
import Derived.Test.YtmajempbncllgaaDoorFl4
import Derived.Test.YtmajempbncllgaaDoorRf
namespace Go.Proofs.YtmajempbncllgaaDoor
open Go.RowKit
set_option linter.unusedVariables false
attribute [local go_sem] Oper.semAt_some
/-- What a round leaves as it lay: memory below n0, and two blocks. -/
def KpB (n0 B1 B2 : Nat) (W W' : World) : Prop := Below n0 W W' ∧ (∀ o, W.heap[B1]? = some o → W'.heap[B1]? = some o) ∧ (∀ o, W.heap[B2]? = some o → W'.heap[B2]? = some o)
theorem KpB.refl (n0 B1 B2 : Nat) (W : World) : KpB n0 B1 B2 W W := ⟨Below.refl _ _, fun _ h => h, fun _ h => h⟩
theorem KpB.trans {n0 B1 B2 : Nat} {A B C : World} (h : KpB n0 B1 B2 A B) (k : KpB n0 B1 B2 B C) : KpB n0 B1 B2 A C :=
  ⟨h.1.trans k.1, fun o ho => k.2.1 o (h.2.1 o ho), fun o ho => k.2.2 o (h.2.2 o ho)⟩
theorem KpB.of_below {n0 B1 B2 : Nat} {W W' : World} (h : Below W.heap.size W W') (hn : n0 ≤ W.heap.size) : KpB n0 B1 B2 W W' :=
  ⟨h.mono hn, fun o ho => (h.block B1 (Array.getElem?_eq_some_iff.1 ho).1).trans ho, fun o ho => (h.block B2 (Array.getElem?_eq_some_iff.1 ho).1).trans ho⟩
theorem grownBy_drew (W : World) : W.grownBy W.drew none := ⟨rfl, rfl, rfl, Nat.le_refl _, fun _ _ _ => rfl⟩
def encS (p : Int × Int) : Value := .agg #[.int .i32 p.1, .int .i32 p.2]
theorem pairsS_any (A : Option Addr) (n c : Nat) (A' : Option Addr) (n' c' : Nat) (w : World) :
    Calls Tryd.prog 31 #[.slice A n c, .slice A' n' c'] w fun e w' => e = .returned (.func (.func 42) #[] #[.pointer (some ⟨w.heap.size, 0, none⟩), .pointer (some ⟨w.heap.size + 1, 0, none⟩)]) ∧ w' = (w.alloc (.cells #[.slice A n c] 22)).alloc (.cells #[.slice A' n' c'] 22) := by
  go_enter Tryd.func31, Tryd.ntmps31
  go_wp2
  go_ret
  exact ⟨rfl, rfl⟩
theorem pairsI_any (A : Option Addr) (n c : Nat) (A' : Option Addr) (n' c' : Nat) (w : World) :
    Calls Tryd.prog 44 #[.slice A n c, .slice A' n' c'] w fun e w' => e = .returned (.func (.func 45) #[] #[.pointer (some ⟨w.heap.size, 0, none⟩), .pointer (some ⟨w.heap.size + 1, 0, none⟩)]) ∧ w' = (w.alloc (.cells #[.slice A n c] 22)).alloc (.cells #[.slice A' n' c'] 39) := by
  go_enter Tryd.func44, Tryd.ntmps44
  go_wp2
  go_ret
  exact ⟨rfl, rfl⟩
set_option maxRecDepth 100000 in
set_option maxHeartbeats 4000000 in
theorem pairsS1_in (m : Nat) (hm : 1 ≤ m) (l B1 B2 n0 : Nat) (A : Option Addr) (n c : Nat) (A' : Option Addr) (c' : Nat) (es bs : List (Int × Int)) (f g : Nat → Int × Int)
    (hf : ∀ j p, es[j]? = some p → f j = p) (hg : ∀ j p, bs[j]? = some p → g j = p) (J Jx : List Nat → World → Prop) (W : World) (hN : n0 ≤ W.heap.size) (hJ : AbidesFrom W.heap.size J)
    (hY : ∀ pre x W, J pre W → pre.length < n → YieldAt Fence.wide (m - 1) Tryd.prog l #[encS (f x), encS (g x)] W fun e W' =>
      (e = .returned (.bool true) ∧ J (pre ++ [x]) W' ∧ KpB n0 B1 B2 W W') ∨ (e = .returned (.bool false) ∧ Jx (pre ++ [x]) W'))
    (h1 : W.heap[B1]? = some (.cells #[.slice A n c] 22 (0, 0))) (h2 : W.heap[B2]? = some (.cells #[.slice A' n c'] 22 (0, 0))) (hE : Sp W n0 A n c es) (hB : Sp W n0 A' n c' bs) (h0 : J [] W) :
    CallsIn Fence.wide m Tryd.prog 42 #[.func (.yield l) #[] #[], .pointer (some ⟨B1, 0, none⟩), .pointer (some ⟨B2, 0, none⟩)] W fun e W' => (∃ v, e = .returned v) ∧
      ((∃ ys, ys = List.range n ∧ J ys W') ∨ (∃ pre, (∃ k, k ≤ n ∧ pre = List.range k) ∧ Jx pre W')) := by
  refine callsIn_of_wp Tryd.func42 rfl trivial ?_ rfl
  simp only [Tryd.ntmps42, List.size_toArray, List.length_cons, List.length_nil, Nat.reduceAdd, Nat.reduceSub, Array.replicate_succ, Array.replicate_zero, List.push_toArray, List.append_toArray, List.nil_append, List.cons_append]
  have hcm := hE.max
  have hcn := hE.cap
  unfold maxLen at hcm
  have HE := Lib.hid hE
  have HB := Lib.hid hB
  have H1 := Lib.hid h1
  have H2 := Lib.hid h2
  have c1 : W.cell? ⟨B1, 0, none⟩ = some (.slice A n c) := by simp [World.cell?, h1]
  have c2 : W.cell? ⟨B2, 0, none⟩ = some (.slice A' n c') := by simp [World.cell?, h2]
  clear hE hB h1 h2
  gi_wp2
  clear c1 c2
  gi_loopw [10] (fun i wr => ∃ k : Nat, k ≤ n ∧ i = .int .i64 k ∧ J (List.range k) wr ∧ KpB n0 B1 B2 W wr) (fun i _ => n - (intOf i).toNat)
  case atStart => exact ⟨0, Nat.zero_le _, rfl, h0, KpB.refl _ _ _ _⟩
  case round =>
    obtain ⟨k, hk, rfl, hJs, hnx⟩ := hrel
    by_cases hlt : k < n
    · obtain ⟨b, off, p, rfl, hb, hp, e1, e2⟩ := sp_at (HE.out.below hnx.1) hlt
      obtain ⟨b', off', q, rfl, hb', hq, e3, e4⟩ := sp_at (HB.out.below hnx.1) hlt
      obtain rfl := hf k p hp
      obtain rfl := hg k q hq
      have c1 : wr.cell? ⟨B1, 0, none⟩ = some (.slice (some ⟨b, off, none⟩) n c) := by simp [World.cell?, hnx.2.1 _ H1.out]
      have c2 : wr.cell? ⟨B2, 0, none⟩ = some (.slice (some ⟨b', off', none⟩) n c') := by simp [World.cell?, hnx.2.2 _ H2.out]
      have i0 : (0 : Int) ≤ (k : Int) := by omega
      have i1 : (k : Int) < (n : Int) := by omega
      have hn0 : n0 ≤ wr.heap.size := Nat.le_trans hN hnx.1.size
      have hJd : J (List.range k) wr.drew := hJ _ _ _ none hJs (grownBy_drew wr) (fun r e => by cases e)
      obtain ⟨fn, tmps, assign, body, hy, hR⟩ := hY _ k wr.drew hJd (by rw [List.length_range]; exact hlt)
      clear hp hq hJs
      unfold encS at hy
      gi_wp2
      refine wpIn_region_still_tail 9 (by kernel_rfl) (by kernel_rfl) ?_
      simp only [List.take_succ_cons, List.take_zero, List.drop_succ_cons, List.drop_zero]
      repeat still_step
      refine wpStill_nil ?_
      gi_wp2
      refine hR.mono ?_
      rintro e W3 (⟨rfl, hJ3, hk3⟩ | ⟨rfl, hJx3⟩)
      · gi_wp2
        go_roundw
        case rel => exact ⟨k + 1, by omega, by go_num, by rw [range_snoc]; exact hJ3, hnx.trans (KpB.trans (KpB.of_below (dN (Below.refl _ _) 1) hn0) hk3)⟩
        case measure => simp [intOf]; omega
      · gi_wp2
        refine bodyPost_ret (results_none rfl _ _ _) rfl ?_
        exact ⟨⟨_, rfl⟩, .inr ⟨_, ⟨k + 1, by omega, (range_snoc _).symm⟩, hJx3⟩⟩
    · obtain rfl : k = n := by omega
      gi_wp2
      go_end0
      exact ⟨⟨_, rfl⟩, .inl ⟨_, rfl, hJs⟩⟩
set_option maxRecDepth 100000 in
set_option maxHeartbeats 4000000 in
theorem pairsI1_in (m : Nat) (hm : 1 ≤ m) (l B1 B2 n0 : Nat) (A : Option Addr) (n c : Nat) (A' : Option Addr) (c' : Nat) (es : List (Int × Int)) (bs : List Int) (f : Nat → Int × Int) (g : Nat → Int)
    (hf : ∀ j p, es[j]? = some p → f j = p) (hg : ∀ j p, bs[j]? = some p → g j = p) (J Jx : List Nat → World → Prop) (W : World) (hN : n0 ≤ W.heap.size) (hJ : AbidesFrom W.heap.size J)
    (hY : ∀ pre x W, J pre W → pre.length < n → YieldAt Fence.wide (m - 1) Tryd.prog l #[encS (f x), Value.int .i32 (g x)] W fun e W' =>
      (e = .returned (.bool true) ∧ J (pre ++ [x]) W' ∧ KpB n0 B1 B2 W W') ∨ (e = .returned (.bool false) ∧ Jx (pre ++ [x]) W'))
    (h1 : W.heap[B1]? = some (.cells #[.slice A n c] 22 (0, 0))) (h2 : W.heap[B2]? = some (.cells #[.slice A' n c'] 39 (0, 0))) (hE : Sp W n0 A n c es) (hB : Si W n0 A' n c' bs) (h0 : J [] W) :
    CallsIn Fence.wide m Tryd.prog 45 #[.func (.yield l) #[] #[], .pointer (some ⟨B1, 0, none⟩), .pointer (some ⟨B2, 0, none⟩)] W fun e W' => (∃ v, e = .returned v) ∧
      ((∃ ys, ys = List.range n ∧ J ys W') ∨ (∃ pre, (∃ k, k ≤ n ∧ pre = List.range k) ∧ Jx pre W')) := by
  refine callsIn_of_wp Tryd.func45 rfl trivial ?_ rfl
  simp only [Tryd.ntmps45, List.size_toArray, List.length_cons, List.length_nil, Nat.reduceAdd, Nat.reduceSub, Array.replicate_succ, Array.replicate_zero, List.push_toArray, List.append_toArray, List.nil_append, List.cons_append]
  have hcm := hE.max
  have hcn := hE.cap
  unfold maxLen at hcm
  have HE := Lib.hid hE
  have HB := Lib.hid hB
  have H1 := Lib.hid h1
  have H2 := Lib.hid h2
  have c1 : W.cell? ⟨B1, 0, none⟩ = some (.slice A n c) := by simp [World.cell?, h1]
  have c2 : W.cell? ⟨B2, 0, none⟩ = some (.slice A' n c') := by simp [World.cell?, h2]
  clear hE hB h1 h2
  gi_wp2
  clear c1 c2
  gi_loopw [10] (fun i wr => ∃ k : Nat, k ≤ n ∧ i = .int .i64 k ∧ J (List.range k) wr ∧ KpB n0 B1 B2 W wr) (fun i _ => n - (intOf i).toNat)
  case atStart => exact ⟨0, Nat.zero_le _, rfl, h0, KpB.refl _ _ _ _⟩
  case round =>
    obtain ⟨k, hk, rfl, hJs, hnx⟩ := hrel
    by_cases hlt : k < n
    · obtain ⟨b, off, p, rfl, hb, hp, e1, e2⟩ := sp_at (HE.out.below hnx.1) hlt
      obtain ⟨b', off', q, rfl, hb', hq, e3⟩ := si_at (HB.out.below hnx.1) hlt
      obtain rfl := hf k p hp
      obtain rfl := hg k q hq
      have c1 : wr.cell? ⟨B1, 0, none⟩ = some (.slice (some ⟨b, off, none⟩) n c) := by simp [World.cell?, hnx.2.1 _ H1.out]
      have c2 : wr.cell? ⟨B2, 0, none⟩ = some (.slice (some ⟨b', off', none⟩) n c') := by simp [World.cell?, hnx.2.2 _ H2.out]
      have i0 : (0 : Int) ≤ (k : Int) := by omega
      have i1 : (k : Int) < (n : Int) := by omega
      have hn0 : n0 ≤ wr.heap.size := Nat.le_trans hN hnx.1.size
      have hJd : J (List.range k) wr.drew := hJ _ _ _ none hJs (grownBy_drew wr) (fun r e => by cases e)
      obtain ⟨fn, tmps, assign, body, hy, hR⟩ := hY _ k wr.drew hJd (by rw [List.length_range]; exact hlt)
      clear hp hq hJs
      unfold encS at hy
      gi_wp2
      refine wpIn_region_still_tail 9 (by kernel_rfl) (by kernel_rfl) ?_
      simp only [List.take_succ_cons, List.take_zero, List.drop_succ_cons, List.drop_zero]
      repeat still_step
      refine wpStill_nil ?_
      gi_wp2
      refine hR.mono ?_
      rintro e W3 (⟨rfl, hJ3, hk3⟩ | ⟨rfl, hJx3⟩)
      · gi_wp2
        go_roundw
        case rel => exact ⟨k + 1, by omega, by go_num, by rw [range_snoc]; exact hJ3, hnx.trans (KpB.trans (KpB.of_below (dN (Below.refl _ _) 1) hn0) hk3)⟩
        case measure => simp [intOf]; omega
      · gi_wp2
        refine bodyPost_ret (results_none rfl _ _ _) rfl ?_
        exact ⟨⟨_, rfl⟩, .inr ⟨_, ⟨k + 1, by omega, (range_snoc _).symm⟩, hJx3⟩⟩
    · obtain rfl : k = n := by omega
      gi_wp2
      go_end0
      exact ⟨⟨_, rfl⟩, .inl ⟨_, rfl, hJs⟩⟩
/-- As the law of a range over it asks. -/
theorem pairsS_stops (m : Nat) (hm : 1 ≤ m) (B1 B2 n0 : Nat) (A : Option Addr) (n c : Nat) (A' : Option Addr) (c' : Nat) (es bs : List (Int × Int)) (f g : Nat → Int × Int)
    (hf : ∀ j p, es[j]? = some p → f j = p) (hg : ∀ j p, bs[j]? = some p → g j = p) (w : World) (hN : n0 ≤ w.heap.size)
    (h1 : w.heap[B1]? = some (.cells #[.slice A n c] 22 (0, 0))) (h2 : w.heap[B2]? = some (.cells #[.slice A' n c'] 22 (0, 0))) (hE : Sp w n0 A n c es) (hB : Sp w n0 A' n c' bs) :
    SeqStopsK Fence.wide m Tryd.prog 42 #[.pointer (some ⟨B1, 0, none⟩), .pointer (some ⟨B2, 0, none⟩)] (fun x : Nat => #[encS (f x), encS (g x)]) (KpB n0 B1 B2) (fun ys => ys = List.range n) (fun pre => ∃ k, k ≤ n ∧ pre = List.range k) n w := fun l J Jx W hW hJ _ hY h0 => by
  have hb := hW.mono hN
  exact pairsS1_in m hm l B1 B2 n0 A n c A' c' es bs f g hf hg J Jx W (Nat.le_trans hN hW.size) hJ hY ((hW.block B1 (Array.getElem?_eq_some_iff.1 h1).1).trans h1) ((hW.block B2 (Array.getElem?_eq_some_iff.1 h2).1).trans h2) (hE.below hb) (hB.below hb) h0
/-- As the law of a range over it asks. -/
theorem pairsI_stops (m : Nat) (hm : 1 ≤ m) (B1 B2 n0 : Nat) (A : Option Addr) (n c : Nat) (A' : Option Addr) (c' : Nat) (es : List (Int × Int)) (bs : List Int) (f : Nat → Int × Int) (g : Nat → Int)
    (hf : ∀ j p, es[j]? = some p → f j = p) (hg : ∀ j p, bs[j]? = some p → g j = p) (w : World) (hN : n0 ≤ w.heap.size)
    (h1 : w.heap[B1]? = some (.cells #[.slice A n c] 22 (0, 0))) (h2 : w.heap[B2]? = some (.cells #[.slice A' n c'] 39 (0, 0))) (hE : Sp w n0 A n c es) (hB : Si w n0 A' n c' bs) :
    SeqStopsK Fence.wide m Tryd.prog 45 #[.pointer (some ⟨B1, 0, none⟩), .pointer (some ⟨B2, 0, none⟩)] (fun x : Nat => #[encS (f x), Value.int .i32 (g x)]) (KpB n0 B1 B2) (fun ys => ys = List.range n) (fun pre => ∃ k, k ≤ n ∧ pre = List.range k) n w := fun l J Jx W hW hJ _ hY h0 => by
  have hb := hW.mono hN
  exact pairsI1_in m hm l B1 B2 n0 A n c A' c' es bs f g hf hg J Jx W (Nat.le_trans hN hW.size) hJ hY ((hW.block B1 (Array.getElem?_eq_some_iff.1 h1).1).trans h1) ((hW.block B2 (Array.getElem?_eq_some_iff.1 h2).1).trans h2) (hE.below hb) (hB.below hb) h0
theorem kpB_b {n0 B1 B2 H : Nat} (hn : n0 ≤ H) (h1 : B1 < H) (h2 : B2 < H) : ∀ (W : World) (l : Nat) (o o' : Obj), H ≤ l → W.heap[l]? = some o → o.isCells = false → o.isWalk = false → KpB n0 B1 B2 W (W.putObj l o') :=
  fun W l o o' hl ho h3 h4 => ⟨(Below.refl n0 W).grown (grownBy_putObj' W l o') (by have := (Array.getElem?_eq_some_iff.1 ho).1; omega) (fun k e => by cases e; omega), fun o2 h => (World.putObj_heap_other (by omega)).trans h, fun o2 h => (World.putObj_heap_other (by omega)).trans h⟩
end Go.Proofs.YtmajempbncllgaaDoor
