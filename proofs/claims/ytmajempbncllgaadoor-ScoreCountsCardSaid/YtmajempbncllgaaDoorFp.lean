/- Spans for the layers behind 4: words and contracts of plain, common, Has, Meet, Covers. -/
import Derived.Test.YtmajempbncllgaaDoorChecked
import Derived.Test.YtmajempbncllgaaDoorGv
import Derived.Test.YtmajempbncllgaaDoorReg5
import Derived.BigQuiet
import Derived.BigCall
import Derived.Laws.ResultCell
import Derived.Laws.IdiomRangeMap
import Derived.Lib.Hide
import Derived.Lib.SmallJoins
namespace Go.Proofs.YtmajempbncllgaaDoor
open Go.RowKit
set_option linter.unusedVariables false
/-- Block b holds the span p. -/
def Blk (w : World) (b : Nat) (p : Int × Int) : Prop := w.heap[b]? = some (.cells #[.int .i32 p.1, .int .i32 p.2] 36 (0, 0))
theorem Blk.lt {w : World} {b : Nat} {p : Int × Int} (h : Blk w b p) : b < w.heap.size := (Array.getElem?_eq_some_iff.1 h).1
theorem Blk.next {w w' : World} {b : Nat} {p : Int × Int} (h : Blk w b p) (hb : Below w.heap.size w w') : Blk w' b p := (hb.block b h.lt).trans h
theorem Blk.lit (w : World) (x y : Int) : Blk (w.alloc (.cells #[.int .i32 x, .int .i32 y] 36)) w.heap.size (x, y) := heap_alloc_new w _
theorem Blk.old {w : World} {b : Nat} {p : Int × Int} (h : Blk w b p) (o : Obj) : Blk (w.alloc o) b p := h.next (below_lit w o)
theorem Blk.cells {w : World} {b : Nat} {p : Int × Int} (h : Blk w b p) : w.cell? ⟨b, 0, none⟩ = some (.int .i32 p.1) ∧ w.cell? ⟨b, 1, none⟩ = some (.int .i32 p.2) := by
  unfold Blk at h
  simp [World.cell?, h]
theorem Blk.free {w : World} {b : Nat} {p : Int × Int} (h : Blk w b p) : w.frozen? ⟨b, 0, none⟩ = false ∧ w.frozen? ⟨b, 1, none⟩ = false := by
  unfold Blk at h
  simp [World.frozen?, h]
theorem Blk.set {w : World} {b : Nat} {p : Int × Int} (h : Blk w b p) (x y : Int) : Blk ((w.setCell ⟨b, 0, none⟩ (.int .i32 x)).setCell ⟨b, 1, none⟩ (.int .i32 y)) b (x, y) := by
  have h1 := Go.Joins.block_setCell (i := 0) h (.int .i32 x)
  have h2 := Go.Joins.block_setCell (i := 1) h1 (.int .i32 y)
  exact h2
theorem Blk.off {w : World} {b g : Nat} {p : Int × Int} (h : Blk w b p) (hg : b ≠ g) (i : Nat) (v : Value) : Blk (w.setCell ⟨g, i, none⟩ v) b p := (Below.heap_setCell w ⟨g, i, none⟩ v b hg).trans h
theorem below_set {w w' : World} {B b : Nat} (h : Below B w w') (hb : B ≤ b) (x y : Value) : Below B w ((w'.setCell ⟨b, 0, none⟩ x).setCell ⟨b, 1, none⟩ y) := (h.setCell hb _).setCell hb _
def inR (p : Int × Int) : Prop := (-2147483648 ≤ p.1 ∧ p.1 ≤ 2147483647) ∧ (-2147483648 ≤ p.2 ∧ p.2 ≤ 2147483647)
def E0 : Int × Int := (2147483647, -2147483648)
def Tab (w : World) : Prop := w.cell? ⟨0, 0, none⟩ = some (.int .i32 2147483647) ∧ w.cell? ⟨0, 1, none⟩ = some (.int .i32 (-2147483648)) ∧ 0 < w.heap.size
theorem Tab.next {w w' : World} (h : Tab w) (hb : Below w.heap.size w w') : Tab w' :=
  ⟨(hb.cell (p := ⟨0, 0, none⟩) h.2.2).trans h.1, (hb.cell (p := ⟨0, 1, none⟩) h.2.2).trans h.2.1, Nat.lt_of_lt_of_le h.2.2 hb.size⟩
def plainP (p : Int × Int) : Int × Int := if p.2 < p.1 then E0 else p
def hasB (p : Int × Int) (v : Int) : Bool := decide (p.1 ≤ v) && decide (v ≤ p.2)
def someB (p : Int × Int) : Bool := decide (p.1 ≤ p.2)
def rawP (p q : Int × Int) : Int × Int := (max p.1 q.1, min p.2 q.2)
def comP (p q : Int × Int) : Int × Int := plainP (rawP p q)
def meetB (p q : Int × Int) : Bool := decide (max p.1 q.1 ≤ min p.2 q.2)
def meetP (p q : Int × Int) : Int × Int := if max p.1 q.1 ≤ min p.2 q.2 then (max p.1 q.1, min p.2 q.2) else (0, 0)
def covB (p q : Int × Int) : Bool := decide (q.2 < q.1) || (decide (p.1 ≤ q.1) && decide (q.2 ≤ p.2))
def hullP (p q : Int × Int) : Int × Int := if p.2 < p.1 then (if q.2 < q.1 then (0, 0) else q) else if q.2 < q.1 then p else (min p.1 q.1, max p.2 q.2)
def lenP (p : Int × Int) : Int := if p.2 < p.1 then 0 else min (p.2 - p.1 + 1) 4294967295
theorem plain_any (p : Int × Int) (w : World) (hT : Tab w) : Calls Tryd.prog 39 #[(.agg #[.int .i32 p.1, .int .i32 p.2])] w fun e w' => e = .returned (.agg #[.int .i32 (plainP p).1, .int .i32 (plainP p).2]) ∧ Below w.heap.size w w' := by
  obtain ⟨T0, T1, TL⟩ := hT
  have TN : w.heap.size ≠ 0 := by omega
  unfold plainP
  rcases Int.lt_or_le p.2 p.1 with h | h
  · rw [if_pos h]
    go_enter Tryd.func39, Tryd.ntmps39
    go_wp2
    refine bodyPost_ret (v := .agg #[.int .i32 2147483647, .int .i32 (-2147483648)]) (by simp [results, Tryd.results39, go_sem]) rfl ⟨rfl, Go.Joins.below_alloc2 w _ _⟩
  · rw [if_neg (by omega)]
    go_enter Tryd.func39, Tryd.ntmps39
    go_wp2
    refine bodyPost_ret (v := (.agg #[.int .i32 p.1, .int .i32 p.2])) (by simp [results, Tryd.results39, go_sem]) rfl ⟨rfl, Go.Joins.below_alloc2 w _ _⟩
theorem has_any (p : Int × Int) (v : Int) (w : World) : Calls Tryd.prog 36 #[(.agg #[.int .i32 p.1, .int .i32 p.2]), .int .i32 v] w fun e w' => e = .returned (.bool (hasB p v)) ∧ Below w.heap.size w w' := by
  unfold hasB
  go_enter Tryd.func36, Tryd.ntmps36
  go_wp2
  all_goals go_ret
  · exact ⟨by simp_all, below_lit _ _⟩
  · exact ⟨by simp_all; omega, below_lit _ _⟩
theorem common_any (p q : Int × Int) (w : World) (hT : Tab w) : Calls Tryd.prog 43 #[(.agg #[.int .i32 p.1, .int .i32 p.2]), (.agg #[.int .i32 q.1, .int .i32 q.2])] w fun e w' => e = .returned (.agg #[.int .i32 (comP p q).1, .int .i32 (comP p q).2]) ∧ Below w.heap.size w w' := by
  obtain ⟨m1, e1⟩ : ∃ m, (if p.1 < q.1 then q.1 else p.1) = m := ⟨_, rfl⟩
  obtain ⟨m2, e2⟩ : ∃ m, (if q.2 < p.2 then q.2 else p.2) = m := ⟨_, rfl⟩
  have HR : Hid (plainP (m1, m2) = comP p q) := by
    unfold Hid comP rawP
    rw [← e1, ← e2]
    congr 2
    · omega
    · omega
  generalize comP p q = r at *
  go_enter Tryd.func43, Tryd.ntmps43
  go_wp2_with fail
  have K3 : Blk (((w.alloc (.cells #[.int .i32 p.1, .int .i32 p.2] 36)).alloc (.cells #[.int .i32 q.1, .int .i32 q.2] 36)).alloc (.cells #[.int .i32 0, .int .i32 0] 36)) (w.heap.size + 1 + 1) (0, 0) := by
    have := Blk.lit ((w.alloc (.cells #[.int .i32 p.1, .int .i32 p.2] 36)).alloc (.cells #[.int .i32 q.1, .int .i32 q.2] 36)) 0 0
    simpa using this
  have b3 := thn (Go.Joins.below_alloc2 w (.cells #[.int .i32 p.1, .int .i32 p.2] 36) (.cells #[.int .i32 q.1, .int .i32 q.2] 36)) (below_lit _ (.cells #[.int .i32 0, .int .i32 0] 36))
  have hT3 := hT.next b3
  generalize ((w.alloc _).alloc _).alloc _ = W at *
  have hc := plain_any (m1, m2) W hT3
  rw [HR.out] at hc
  refine hc.mono ?_
  clear hc
  rintro e w' ⟨rfl, b⟩
  have k3 := K3.next b
  obtain ⟨c0, c1⟩ := k3.cells
  obtain ⟨f0, f1⟩ := k3.free
  have bb := Lib.hid (b3.trans (b.mono b3.size))
  have K4 := Lib.hid (k3.set r.1 r.2)
  clear b3 b hT hT3 K3 k3
  go_wp2
  obtain ⟨d0, d1⟩ := K4.out.cells
  have bz := below_set bb.out (show w.heap.size ≤ w.heap.size + 1 + 1 by omega) (.int .i32 r.1) (.int .i32 r.2)
  generalize World.setCell _ _ _ = W4 at *
  refine bodyPost_ret (v := (.agg #[.int .i32 r.1, .int .i32 r.2])) (by simp [results, Tryd.results43, go_sem, d0, d1]) rfl ⟨rfl, bz⟩
theorem eql_run (p q : Int × Int) (w : World) : (binOp .eql 36 (.agg #[.int .i32 p.1, .int .i32 p.2]) (.agg #[.int .i32 q.1, .int .i32 q.2])).run Tryd.prog w = .ok (.bool (decide (p.1 = q.1 ∧ p.2 = q.2))) w := by
  by_cases h1 : p.1 = q.1
  · by_cases h2 : p.2 = q.2
    · simp [go_sem, h1, h2]
    · simp [go_sem, h1, h2]
  · simp [go_sem, h1]
theorem neq_run (p q : Int × Int) (w : World) : (binOp .neq 36 (.agg #[.int .i32 p.1, .int .i32 p.2]) (.agg #[.int .i32 q.1, .int .i32 q.2])).run Tryd.prog w = .ok (.bool (!decide (p.1 = q.1 ∧ p.2 = q.2))) w := by
  by_cases h1 : p.1 = q.1
  · by_cases h2 : p.2 = q.2
    · simp [go_sem, h1, h2]
    · simp [go_sem, h1, h2]
  · simp [go_sem, h1]
theorem plain_of {p r : Int × Int} {w : World} (hT : Tab w) (h : plainP p = r) : Calls Tryd.prog 39 #[(.agg #[.int .i32 p.1, .int .i32 p.2])] w fun e w' => e = .returned (.agg #[.int .i32 r.1, .int .i32 r.2]) ∧ Below w.heap.size w w' := by
  subst h; exact plain_any p w hT
theorem common_of {p q r : Int × Int} {w : World} (hT : Tab w) (h : comP p q = r) : Calls Tryd.prog 43 #[(.agg #[.int .i32 p.1, .int .i32 p.2]), (.agg #[.int .i32 q.1, .int .i32 q.2])] w fun e w' => e = .returned (.agg #[.int .i32 r.1, .int .i32 r.2]) ∧ Below w.heap.size w w' := by
  subst h; exact common_any p q w hT
theorem has_of {p : Int × Int} {v : Int} {b : Bool} {w : World} (h : hasB p v = b) : Calls Tryd.prog 36 #[(.agg #[.int .i32 p.1, .int .i32 p.2]), .int .i32 v] w fun e w' => e = .returned (.bool b) ∧ Below w.heap.size w w' := by
  subst h; exact has_any p v w
theorem cov_eq {p q : Int × Int} (hp : inR p) (hq : inR q) : decide ((comP p q).1 = (plainP q).1 ∧ (comP p q).2 = (plainP q).2) = covB p q := by
  obtain ⟨⟨_, _⟩, _, _⟩ := hp
  obtain ⟨⟨_, _⟩, _, _⟩ := hq
  rw [Bool.eq_iff_iff]
  unfold comP plainP rawP covB E0
  simp only [decide_eq_true_eq, Bool.or_eq_true, Bool.and_eq_true, Int.max_def, Int.min_def]
  repeat' split
  all_goals (first | omega | (simp only; omega))
theorem meet_any (p q : Int × Int) (w : World) (hT : Tab w) (hp : inR p) (hq : inR q) : Calls Tryd.prog 32 #[(.agg #[.int .i32 p.1, .int .i32 p.2]), (.agg #[.int .i32 q.1, .int .i32 q.2])] w fun e w' => e = .returned (.tuple #[(.agg #[.int .i32 (meetP p q).1, .int .i32 (meetP p q).2]), .bool (meetB p q)]) ∧ Below w.heap.size w w' := by
  by_cases h : max p.1 q.1 ≤ min p.2 q.2
  · have HR : Hid (comP p q = meetP p q) := by unfold Hid comP plainP rawP meetP; rw [if_neg (by simp only; omega), if_pos h]
    have hne : ¬ ((meetP p q).1 = 2147483647 ∧ (meetP p q).2 = -2147483648) := by unfold meetP; rw [if_pos h]; simp only; omega
    rw [show meetB p q = true from decide_eq_true h]
    generalize meetP p q = r at *
    clear h
    go_enter Tryd.func32, Tryd.ntmps32
    go_wp2_with fail
    have K3 : Blk (((w.alloc (.cells #[.int .i32 p.1, .int .i32 p.2] 36)).alloc (.cells #[.int .i32 q.1, .int .i32 q.2] 36)).alloc (.cells #[.int .i32 0, .int .i32 0] 36)) (w.heap.size + 1 + 1) (0, 0) := by
      have := Blk.lit ((w.alloc (.cells #[.int .i32 p.1, .int .i32 p.2] 36)).alloc (.cells #[.int .i32 q.1, .int .i32 q.2] 36)) 0 0
      simpa using this
    have b3 := thn (Go.Joins.below_alloc2 w (.cells #[.int .i32 p.1, .int .i32 p.2] 36) (.cells #[.int .i32 q.1, .int .i32 q.2] 36)) (below_lit _ (.cells #[.int .i32 0, .int .i32 0] 36))
    have hT3 := hT.next b3
    generalize ((w.alloc _).alloc _).alloc _ = W at *
    refine (common_of hT3 HR.out).mono ?_
    rintro e w' ⟨rfl, b⟩
    have k3 := K3.next b
    obtain ⟨c0, c1⟩ := k3.cells
    obtain ⟨f0, f1⟩ := k3.free
    have bb := b3.trans (b.mono b3.size)
    obtain ⟨T0, T1, TL⟩ := hT3.next b
    have TN : w'.heap.size ≠ 0 := by omega
    have n1 := k3.lt
    have n2 : w.heap.size + 1 + 1 ≠ w'.heap.size := by omega
    have n3 : w'.heap.size ≠ w.heap.size + 1 + 1 := by omega
    have heq : ∀ w : World, (binOp .eql 36 (.agg #[.int .i32 r.1, .int .i32 r.2]) (.agg #[.int .i32 2147483647, .int .i32 (-2147483648)])).run Tryd.prog w = .ok (.bool false) w := fun w => by rw [eql_run r (2147483647, -2147483648) w]; simp [hne]
    have K5 : Hid (Blk (((w'.setCell ⟨w.heap.size + 1 + 1, 0, none⟩ (.int .i32 r.1)).setCell ⟨w.heap.size + 1 + 1, 1, none⟩ (.int .i32 r.2)).alloc (.cells #[.int .i32 r.1, .int .i32 r.2] 36)) (w.heap.size + 1 + 1) r) := (k3.set r.1 r.2).old _
    have BB : Hid (Below w.heap.size w (((w'.setCell ⟨w.heap.size + 1 + 1, 0, none⟩ (.int .i32 r.1)).setCell ⟨w.heap.size + 1 + 1, 1, none⟩ (.int .i32 r.2)).alloc (.cells #[.int .i32 r.1, .int .i32 r.2] 36))) := (below_set bb (by omega) _ _).alloc (by simp only [World.size_setCell]; exact bb.size) _
    clear b3 b hT hT3 K3 k3 hne bb
    go_wp2
    generalize World.alloc _ _ = W6 at *
    obtain ⟨d0, d1⟩ := K5.out.cells
    exact bodyPost_ret (v := .tuple #[(.agg #[.int .i32 r.1, .int .i32 r.2]), .bool true]) (by simp [results, Tryd.results32, go_sem, d0, d1]) rfl ⟨rfl, BB.out⟩
  · have HR : Hid (comP p q = (2147483647, -2147483648)) := by unfold Hid comP plainP rawP E0; rw [if_pos (by simp only; omega)]
    rw [show meetB p q = false from decide_eq_false h, show meetP p q = (0, 0) from if_neg h]
    clear h
    go_enter Tryd.func32, Tryd.ntmps32
    go_wp2_with fail
    have K3 : Blk (((w.alloc (.cells #[.int .i32 p.1, .int .i32 p.2] 36)).alloc (.cells #[.int .i32 q.1, .int .i32 q.2] 36)).alloc (.cells #[.int .i32 0, .int .i32 0] 36)) (w.heap.size + 1 + 1) (0, 0) := by
      have := Blk.lit ((w.alloc (.cells #[.int .i32 p.1, .int .i32 p.2] 36)).alloc (.cells #[.int .i32 q.1, .int .i32 q.2] 36)) 0 0
      simpa using this
    have b3 := thn (Go.Joins.below_alloc2 w (.cells #[.int .i32 p.1, .int .i32 p.2] 36) (.cells #[.int .i32 q.1, .int .i32 q.2] 36)) (below_lit _ (.cells #[.int .i32 0, .int .i32 0] 36))
    have hT3 := hT.next b3
    generalize ((w.alloc _).alloc _).alloc _ = W at *
    refine (common_of hT3 HR.out).mono ?_
    rintro e w' ⟨rfl, b⟩
    have k3 := K3.next b
    obtain ⟨c0, c1⟩ := k3.cells
    obtain ⟨f0, f1⟩ := k3.free
    have bb := b3.trans (b.mono b3.size)
    obtain ⟨T0, T1, TL⟩ := hT3.next b
    have TN : w'.heap.size ≠ 0 := by omega
    have n1 := k3.lt
    have n2 : w.heap.size + 1 + 1 ≠ w'.heap.size := by omega
    have n3 : w'.heap.size ≠ w.heap.size + 1 + 1 := by omega
    have K5 : Hid (Blk (((w'.setCell ⟨w.heap.size + 1 + 1, 0, none⟩ (.int .i32 0)).setCell ⟨w.heap.size + 1 + 1, 1, none⟩ (.int .i32 0)).alloc (.cells #[.int .i32 2147483647, .int .i32 (-2147483648)] 36)) (w.heap.size + 1 + 1) (0, 0)) := (k3.set 0 0).old _
    have BB : Hid (Below w.heap.size w (((w'.setCell ⟨w.heap.size + 1 + 1, 0, none⟩ (.int .i32 0)).setCell ⟨w.heap.size + 1 + 1, 1, none⟩ (.int .i32 0)).alloc (.cells #[.int .i32 2147483647, .int .i32 (-2147483648)] 36))) := (below_set bb (by omega) _ _).alloc (by simp only [World.size_setCell]; exact bb.size) _
    clear b3 b hT hT3 K3 k3 bb
    go_wp2
    generalize World.alloc _ _ = W6 at *
    obtain ⟨d0, d1⟩ := K5.out.cells
    exact bodyPost_ret (v := .tuple #[.agg #[.int .i32 0, .int .i32 0], .bool false]) (by simp [results, Tryd.results32, go_sem, d0, d1]) rfl ⟨rfl, BB.out⟩
theorem covers_any (p q : Int × Int) (w : World) (hT : Tab w) (hp : inR p) (hq : inR q) : Calls Tryd.prog 34 #[(.agg #[.int .i32 p.1, .int .i32 p.2]), (.agg #[.int .i32 q.1, .int .i32 q.2])] w fun e w' => e = .returned (.bool (covB p q)) ∧ Below w.heap.size w w' := by
  have HE : Hid (decide ((comP p q).1 = (plainP q).1 ∧ (comP p q).2 = (plainP q).2) = covB p q) := cov_eq hp hq
  obtain ⟨r, Hr⟩ : ∃ r, Hid (comP p q = r) := ⟨_, rfl⟩
  obtain ⟨s, Hs⟩ : ∃ s, Hid (plainP q = s) := ⟨_, rfl⟩
  rw [Hr.out, Hs.out] at HE
  generalize covB p q = b at *
  have b2 := Go.Joins.below_alloc2 w (.cells #[.int .i32 p.1, .int .i32 p.2] 36) (.cells #[.int .i32 q.1, .int .i32 q.2] 36)
  have K2 : Hid (Blk ((w.alloc (.cells #[.int .i32 p.1, .int .i32 p.2] 36)).alloc (.cells #[.int .i32 q.1, .int .i32 q.2] 36)) w.heap.size p) := (Blk.lit w p.1 p.2).old _
  have K3 : Hid (Blk ((w.alloc (.cells #[.int .i32 p.1, .int .i32 p.2] 36)).alloc (.cells #[.int .i32 q.1, .int .i32 q.2] 36)) (w.heap.size + 1) q) := by
    have := Blk.lit (w.alloc (.cells #[.int .i32 p.1, .int .i32 p.2] 36)) q.1 q.2
    unfold Hid
    simpa using this
  have HT : Hid (Tab ((w.alloc (.cells #[.int .i32 p.1, .int .i32 p.2] 36)).alloc (.cells #[.int .i32 q.1, .int .i32 q.2] 36))) := hT.next b2
  clear hT
  clear hp hq
  go_enter Tryd.func34, Tryd.ntmps34
  go_wp2
  generalize (w.alloc _).alloc _ = W at *
  generalize w.heap.size + 1 = g3 at K3 ⊢
  generalize w.heap.size = g2 at K2 ⊢
  refine wp_region_typed_end 7 [(5, .val (.agg #[.int .i32 p.1, .int .i32 p.2])), (6, .val (.agg #[.int .i32 q.1, .int .i32 q.2])), (7, .val (.agg #[.int .i32 r.1, .int .i32 r.2])), (8, .val (.agg #[.int .i32 q.1, .int .i32 q.2])), (9, .val (.agg #[.int .i32 s.1, .int .i32 s.2])), (10, .val (.bool b)), (4, .val (.bool b))]
    [[], [], [5, 6], [], [8], [7, 9], [10]] (by kernel_rfl) (by kernel_rfl) ?_ ?_
  rotate_left
  · intro w5 a hb hB
    have h0 : a.tmps.getD 4 undef = .bool b := hB.new 4 (of_decide_eq_true (by kernel_rfl))
    have hd : a.defers = [] := hB.defers
    clear hB
    simp only [List.drop_succ_cons, List.drop_zero]
    refine wpList_nil ?_
    go_wp2
    exact bodyPost_ret (v := .bool b) ((results_tmp Tryd.results34 a.tmps _ _).trans (by rw [h0])) hd ⟨rfl, b2.trans (hb.mono b2.size)⟩
  simp only [List.take_succ_cons, List.take_zero]
  refine ⟨?g0, ?g1, ?g2, ?g3, ?g4, ?g5, ?g6, trivial⟩
  case g0 =>
    intro w5 hb
    repeat refine over_val rfl ?_
    refine over_nil ?_
    obtain ⟨c0, c1⟩ := (K2.out.next hb).cells
    go_wp2
    exact post_of (by rfl) (by rfl) (Below.refl _ _) (by rfl)
  case g1 =>
    intro w5 hb
    repeat refine over_val rfl ?_
    refine over_nil ?_
    obtain ⟨c0, c1⟩ := (K3.out.next hb).cells
    go_wp2
    exact post_of (by rfl) (by rfl) (Below.refl _ _) (by rfl)
  case g2 =>
    intro w5 hb
    repeat refine over_val rfl ?_
    refine over_nil ?_
    have hT5 := Lib.hid (HT.out.next hb)
    go_wp2_with (go_at_call 43; go_must (refine (common_of hT5.out Hr.out).mono ?_); rintro r w6 ⟨rfl, b6⟩)
    first | exact post_of (by rfl) (by rfl) (Below.refl _ _) (by rfl) | exact post_of (by rfl) (by rfl) b6 (by rfl)
  case g3 =>
    intro w5 hb
    repeat refine over_val rfl ?_
    refine over_nil ?_
    obtain ⟨c0, c1⟩ := (K3.out.next hb).cells
    go_wp2
    exact post_of (by rfl) (by rfl) (Below.refl _ _) (by rfl)
  case g4 =>
    intro w5 hb
    repeat refine over_val rfl ?_
    refine over_nil ?_
    have hT5 := Lib.hid (HT.out.next hb)
    go_wp2_with (go_at_call 39; go_must (refine (plain_of hT5.out Hs.out).mono ?_); rintro r w6 ⟨rfl, b6⟩)
    first | exact post_of (by rfl) (by rfl) (Below.refl _ _) (by rfl) | exact post_of (by rfl) (by rfl) b6 (by rfl)
  case g5 =>
    intro w5 hb
    repeat refine over_val rfl ?_
    refine over_nil ?_
    have heq := fun w' : World => (eql_run r s w').trans (by rw [HE.out])
    go_wp2
    exact post_of (by rfl) (by rfl) (Below.refl _ _) (by rfl)
  all_goals
    intro w5 hb
    repeat refine over_val rfl ?_
    refine over_nil ?_
    go_wp2
    exact post_of (by rfl) (by rfl) (Below.refl _ _) (by rfl)
theorem neq_bool (a b : Bool) (w : World) : (binOp .neq 4 (.bool a) (.bool b)).run Tryd.prog w = .ok (.bool (!(a == b))) w := by
  simp only [binOp]
  simp [Op.equal, Op.maxDepth, go_sem]
theorem meet_of {p q r : Int × Int} {m : Bool} {w : World} (hT : Tab w) (hp : inR p) (hq : inR q) (h : meetP p q = r) (hm : meetB p q = m) : Calls Tryd.prog 32 #[(.agg #[.int .i32 p.1, .int .i32 p.2]), (.agg #[.int .i32 q.1, .int .i32 q.2])] w fun e w' => e = .returned (.tuple #[(.agg #[.int .i32 r.1, .int .i32 r.2]), .bool m]) ∧ Below w.heap.size w w' := by
  subst h hm; exact meet_any p q w hT hp hq
theorem covers_of {p q : Int × Int} {b : Bool} {w : World} (hT : Tab w) (hp : inR p) (hq : inR q) (h : covB p q = b) : Calls Tryd.prog 34 #[(.agg #[.int .i32 p.1, .int .i32 p.2]), (.agg #[.int .i32 q.1, .int .i32 q.2])] w fun e w' => e = .returned (.bool b) ∧ Below w.heap.size w w' := by
  subst h; exact covers_any p q w hT hp hq
end Go.Proofs.YtmajempbncllgaaDoor
