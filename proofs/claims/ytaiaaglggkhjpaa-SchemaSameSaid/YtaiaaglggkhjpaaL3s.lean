/- Layer 3: the walk of SchemaSame. -/
import Derived.Test.YtaiaaglggkhjpaaSch12
import Derived.Test.YtaiaaglggkhjpaaEvw
import Derived.IntWalk
import Derived.Test.YtaiaaglggkhjpaaXor
import Derived.Laws.BitsAllLaws
namespace Go.Proofs.Ytaiaaglggkhjpaa
open Go.RowKit
set_option linter.unusedVariables false
/-- A new event, not yet written. -/
def tyNew (B : Nat) : Ty := .pred (fun v w => ∃ g, v = .pointer (some ⟨g, 0, none⟩) ∧ B ≤ g ∧ w.heap[g]? = some (.cells #[.int .u8 0, .int .u16 0, .int .u32 0, .slice none 0 0, .slice none 0 0] 31 (0, 0))) (fun _ _ _ ⟨g, h, hB, hh⟩ hb => ⟨g, h, hB, (hb.block g (Array.getElem?_eq_some_iff.1 hh).1).trans hh⟩)
theorem few_so {n i s : Int} {A : Option Addr} {vn vc : Nat} {D : Option Addr} {dn dc : Nat} {b : Bool} (w : World) (hb : (decide (vn ≤ 20) && decide (dn ≤ 200)) = b) :
    Calls Try.prog 8 #[.agg #[.int .u8 n, .int .u16 i, .int .u32 s, .slice A vn vc, .slice D dn dc]] w fun e w' => e = .returned (.bool b) ∧ Below w.heap.size w w' := by
  subst hb; exact few_any n i s A vn vc D dn dc w
theorem sameB_me (e : Ev) : sameB e e = true := by simp [sameB]
theorem sameB_comm (e f : Ev) : sameB e f = sameB f e := by
  unfold sameB
  rw [Bool.eq_iff_iff]
  simp only [Bool.and_eq_true, decide_eq_true_eq, beq_iff_eq]
  constructor <;> (rintro ⟨⟨⟨⟨h1, h2⟩, h3⟩, h4⟩, h5⟩; exact ⟨⟨⟨⟨h1.symm, h2.symm⟩, h3.symm⟩, h4.symm⟩, h5.symm⟩)
theorem EvO.mono {w : World} {B B' : Nat} {v : Value} {e : Ev} (h : EvO w B v e) (hB : B' ≤ B) : EvO w B' v e := by
  obtain ⟨V, vc, D, dc, hv, h1, h2⟩ := h
  exact ⟨V, vc, D, dc, hv, h1.mono hB, h2.mono hB⟩
theorem same_of {v v' : Value} {e f : Ev} {b : Bool} {w : World} (hv : EvR w v e) (hv' : EvR w v' f) (hb : sameB e f = b) :
    Calls Try.prog 12 #[v, v'] w fun r w' => r = .returned (.bool b) ∧ Below w.heap.size w w' := by
  subst hb; exact same_any v e v' f w hv hv'
theorem mod_lt (a : Int) {n : Nat} (h : 0 < n) : ∃ k : Nat, a % (n : Int) = (k : Int) ∧ k < n := by
  have h1 := Int.emod_nonneg a (show (n : Int) ≠ 0 by omega)
  have h2 := Int.emod_lt_of_pos a (show (0 : Int) < (n : Int) by omega)
  exact ⟨(a % (n : Int)).toNat, by omega, by omega⟩
theorem own_at {w : World} {B g : Nat} {E : TypeId} {n c : Nat} {xs : List Value} (h : Own w B E (some ⟨g, 0, none⟩) n c xs) : ∃ cur, w.heap[g]? = some (.cells cur E (0, 0)) := by
  rcases h.block with e | ⟨g', cur, e, _, hh⟩
  · cases e
  · injection e with e; injection e with e; subst e; exact ⟨cur, hh⟩
theorem blk_ne {w : World} {g g' : Nat} {cs cs' : Array Value} {t t' : TypeId} {fr fr' : Nat × Nat} (h : w.heap[g]? = some (.cells cs t fr)) (h' : w.heap[g']? = some (.cells cs' t' fr')) (hne : t ≠ t') : g ≠ g' := by
  rintro rfl
  rw [h] at h'
  injection h' with h'
  injection h' with _ e _
  exact hne e
theorem own_slotI {w : World} {B : Nat} {A : Option Addr} {n c : Nat} {xs : List Int} {E : TypeId} (h : Own w B E A n c (Nl .i32 xs)) {j : Nat} (hj : j < n) : ∃ g x, A = some ⟨g, 0, none⟩ ∧ B ≤ g ∧ xs[j]? = some x := by
  rcases h.block with rfl | ⟨g, cur, rfl, hB, hh⟩
  · obtain ⟨_, _, e, _⟩ := h.sv.at_ (by omega)
    cases e
  · have hl := si_len h.sv
    exact ⟨g, _, rfl, hB, List.getElem?_eq_getElem (by omega : j < xs.length)⟩
theorem own_cellI {w : World} {B g : Nat} {n c : Nat} {xs : List Int} {E : TypeId} (h : Own w B E (some ⟨g, 0, none⟩) n c (Nl .i32 xs)) {j : Nat} {x : Int} (hx : xs[j]? = some x) :
    w.cell? ⟨g, j, none⟩ = some (.int .i32 x) ∧ w.frozen? ⟨g, j, none⟩ = false ∧ ∀ y, Own (w.setCell ⟨g, j, none⟩ (.int .i32 y)) B E (some ⟨g, 0, none⟩) n c (Nl .i32 (xs.set j y)) := by
  have hs := h.sv
  have hl := si_len hs
  have hj := (List.getElem?_eq_some_iff.1 hx).1
  obtain ⟨b, off, e, _, hc⟩ := hs.at_ (by omega)
  injection e with e
  injection e with e1 e2
  subst e1 e2
  obtain ⟨cur, hh⟩ := own_at h
  have h1 := hc j _ (Nl_at hx)
  rw [Nat.zero_add] at h1
  refine ⟨h1, by simp [World.frozen?, hh], fun y => ?_⟩
  have := (World.ownsRow.stored h j (.int .i32 y)).1
  rwa [show (Nl .i32 xs).set j (.int .i32 y) = Nl .i32 (xs.set j y) by unfold Nl; rw [List.map_set]] at this
theorem own_slotB {w : World} {B : Nat} {A : Option Addr} {n c : Nat} {l : List UInt8} {E : TypeId} (h : Own w B E A n c (l.map Bv)) {j : Nat} (hj : j < n) : ∃ g u, A = some ⟨g, 0, none⟩ ∧ B ≤ g ∧ l[j]? = some u := by
  rcases h.block with rfl | ⟨g, cur, rfl, hB, hh⟩
  · obtain ⟨_, _, e, _⟩ := h.sv.at_ (by omega)
    cases e
  · have hl := sl_len h.sv
    exact ⟨g, _, rfl, hB, List.getElem?_eq_getElem (by omega : j < l.length)⟩
theorem own_cellB {w : World} {B g : Nat} {n c : Nat} {l : List UInt8} {E : TypeId} (h : Own w B E (some ⟨g, 0, none⟩) n c (l.map Bv)) {j : Nat} {u : UInt8} (hu : l[j]? = some u) :
    w.cell? ⟨g, j, none⟩ = some (.int .u8 (u.toNat : Int)) ∧ w.frozen? ⟨g, j, none⟩ = false ∧ ∀ v : UInt8, Own (w.setCell ⟨g, j, none⟩ (.int .u8 (v.toNat : Int))) B E (some ⟨g, 0, none⟩) n c ((l.set j v).map Bv) := by
  have hs := h.sv
  have hl := sl_len hs
  have hj := (List.getElem?_eq_some_iff.1 hu).1
  obtain ⟨b, off, u', e, _, hu', hc⟩ := sl_at hs (show j < n by omega)
  obtain rfl : u = u' := Option.some.inj (hu.symm.trans hu')
  injection e with e
  injection e with e1 e2
  subst e1 e2
  obtain ⟨cur, hh⟩ := own_at h
  rw [Nat.zero_add] at hc
  refine ⟨hc, by simp [World.frozen?, hh], fun v => ?_⟩
  have := (World.ownsRow.stored h j (Bv v)).1
  rwa [show (l.map Bv).set j (Bv v) = (l.set j v).map Bv by rw [List.map_set]] at this
theorem xor1_byte (u : UInt8) : bits .xor .u8 (u.toNat : Int) 1 = ((u ^^^ 1).toNat : Int) := by
  rw [show (1 : Int) = ((1 : Nat) : Int) from rfl, u8_xor_nat _ _ u.toNat_lt (by decide), UInt8.toNat_xor]
  rfl
theorem xor1_ex (u : UInt8) : ∃ v : UInt8, bits .xor .u8 (u.toNat : Int) 1 = (v.toNat : Int) ∧ v ≠ u :=
  ⟨u ^^^ 1, xor1_byte u, fun e => xor1_u8 (u.toNat : Int) (by rw [xor1_byte, e])⟩
theorem set_ne {α : Type} {xs : List α} {j : Nat} {x y : α} (hx : xs[j]? = some x) (h : y ≠ x) : xs ≠ xs.set j y := fun e => by
  have hj := (List.getElem?_eq_some_iff.1 hx).1
  have h1 : (xs.set j y)[j]? = some y := by rw [List.getElem?_set, if_pos rfl, if_pos hj]
  rw [← e, hx] at h1
  injection h1 with h1
  exact h h1.symm
theorem sameB_xs {e : Ev} {ys : List Int} (n i s : Int) (l : List UInt8) (h : e.xs ≠ ys) : sameB e ⟨n, i, s, ys, l⟩ = false := by simp [sameB, h]
theorem sameB_l {e : Ev} {m : List UInt8} (n i s : Int) (xs : List Int) (h : e.l ≠ m) : sameB e ⟨n, i, s, xs, m⟩ = false := by simp [sameB, h]
section --walk
variable {e : Ev} {V : Option Addr} {vn vc : Nat} {D : Option Addr} {dn dc : Nat}
/-- What is known behind the two copies. -/
structure Two (w : World) (B : Nat) (e : Ev) (G : Nat) (ev : Array Value) (g7 g8 : Nat) (V7 : Option Addr) (vc7 : Nat) (D7 : Option Addr) (dc7 : Nat) (V8 : Option Addr) (vc8 : Nat) (D8 : Option Addr) (dc8 : Nat) : Prop where
  ke : w.heap[G]? = some (.cells ev 31 (0, 0))
  kc : w.heap[g7]? = some (.cells #[.int .u8 e.node, .int .u16 e.inc, .int .u32 e.seq, .slice V7 e.xs.length vc7, .slice D7 e.l.length dc7] 31 (0, 0))
  kd : w.heap[g8]? = some (.cells #[.int .u8 e.node, .int .u16 e.inc, .int .u32 e.seq, .slice V8 e.xs.length vc8, .slice D8 e.l.length dc8] 31 (0, 0))
  re : EvR w (.agg ev) e
  v7 : Own w B 21 V7 e.xs.length vc7 (Nl .i32 e.xs)
  d7 : Own w B 5 D7 e.l.length dc7 (e.l.map Bv)
  v8 : Own w B 21 V8 e.xs.length vc8 (Nl .i32 e.xs)
  d8 : Own w B 5 D8 e.l.length dc8 (e.l.map Bv)
  b7 : B ≤ g7
  b8 : B ≤ g8
  n78 : g7 ≠ g8
  nv : ∀ g, Value.ownBlock (.slice V7 e.xs.length vc7) = some g → Value.ownBlock (.slice V8 e.xs.length vc8) ≠ some g
  nd : ∀ g, Value.ownBlock (.slice D7 e.l.length dc7) = some g → Value.ownBlock (.slice D8 e.l.length dc8) ≠ some g
theorem Two.next {w w' : World} {B G g7 g8 : Nat} {ev : Array Value} {V7 : Option Addr} {vc7 : Nat} {D7 : Option Addr} {dc7 : Nat} {V8 : Option Addr} {vc8 : Nat} {D8 : Option Addr} {dc8 : Nat} (h : Two w B e G ev g7 g8 V7 vc7 D7 dc7 V8 vc8 D8 dc8) (hb : Below w.heap.size w w') : Two w' B e G ev g7 g8 V7 vc7 D7 dc7 V8 vc8 D8 dc8 :=
  ⟨(hb.block _ (Array.getElem?_eq_some_iff.1 h.ke).1).trans h.ke, (hb.block _ (Array.getElem?_eq_some_iff.1 h.kc).1).trans h.kc, (hb.block _ (Array.getElem?_eq_some_iff.1 h.kd).1).trans h.kd, h.re.next hb, h.v7.below hb, h.d7.below hb, h.v8.below hb, h.d8.below hb, h.b7, h.b8, h.n78, h.nv, h.nd⟩
set_option maxRecDepth 100000 in
set_option maxHeartbeats 8000000 in
theorem ssame_main (pt at_ : Int) (w : World) (h1 : Si w w.heap.size V vn vc e.xs) (h2 : Sl w w.heap.size D dn dc e.l) (hp : 0 ≤ pt ∧ pt ≤ 255) (ha : 0 ≤ at_ ∧ at_ ≤ 255) (g2 : vn ≤ 20) (g3 : dn ≤ 200) :
    Calls Try.prog 6 #[.agg #[.int .u8 e.node, .int .u16 e.inc, .int .u32 e.seq, .slice V vn vc, .slice D dn dc], .int .u8 pt, .int .u8 at_] w fun r w' => r = .returned (.bool true) ∧ Below w.heap.size w w' := by
  have EE : EvR w ((.agg #[.int .u8 e.node, .int .u16 e.inc, .int .u32 e.seq, .slice V vn vc, .slice D dn dc])) e := ⟨_, _, _, _, _, _, rfl, h1, h2⟩
  have XA : Hid (e.xs.length ≤ 1000000) := by have := si_len h1; unfold Hid; omega
  have XD : Hid (e.l.length ≤ 1000000) := by have := sl_len h2; unfold Hid; omega
  have HLV : Hid (e.xs.length = vn) := (si_len h1).symm
  have HLD : Hid (e.l.length = dn) := (sl_len h2).symm
  have hb0 := Go.Joins.below_alloc1 w (.cells #[.int .u8 e.node, .int .u16 e.inc, .int .u32 e.seq, .slice V vn vc, .slice D dn dc] 31)
  have K0 : Hid ((w.alloc (.cells #[.int .u8 e.node, .int .u16 e.inc, .int .u32 e.seq, .slice V vn vc, .slice D dn dc] 31)).heap[w.heap.size]? = some (.cells #[.int .u8 e.node, .int .u16 e.inc, .int .u32 e.seq, .slice V vn vc, .slice D dn dc] 31 (0, 0))) := heap_alloc_new w _
  have F1 : Hid ((decide (vn ≤ 20) && decide (dn ≤ 200)) = true) := by unfold Hid; simp [g2, g3]
  have E0 := Lib.hid (EE.next hb0)
  obtain ⟨hp0, hp1⟩ := hp
  obtain ⟨ha0, ha1⟩ := ha
  clear h1 h2 EE
  go_enter Try.func6, Try.ntmps6
  go_wp2_with fail
  generalize w.alloc _ = W0 at *
  have z0 : w.heap.size < W0.heap.size := (Array.getElem?_eq_some_iff.1 K0.out).1
  refine (few_so W0 F1.out).mono ?_
  rintro r w1 ⟨rfl, b1⟩
  have K1 := Lib.hid ((b1.block _ z0).trans K0.out)
  have E1 := Lib.hid (E0.out.next b1)
  have bb := thn hb0 b1
  have z1 : w.heap.size < w1.heap.size := by have := b1.size; omega
  clear K0 E0 hb0 b1 z0 F1
  go_wp2_with fail
  obtain ⟨G0, HG0⟩ : ∃ G, Hid (w.heap.size = G) := ⟨_, rfl⟩
  rw [HG0.out] at K1 z1
  rw [HG0.out]
  refine wp_region_typed2 6 [(13, .val (.agg #[.int .u8 e.node, .int .u16 e.inc, .int .u32 e.seq, .slice V vn vc, .slice D dn dc])), (14, tyEvO w1.heap.size e), (15, .val (.agg #[.int .u8 e.node, .int .u16 e.inc, .int .u32 e.seq, .slice V vn vc, .slice D dn dc])), (16, tyEvO w1.heap.size e), (7, tyNew w1.heap.size), (8, tyNew w1.heap.size)]
    (mkF [7, 8] [14, 16]) [[], [13], [], [15], [], []] (by kernel_rfl) (by kernel_rfl) ?_ ?_
  rotate_left
  · intro w5 af hb hB
    obtain ⟨V7, vc7, D7, dc7, h14, ov7, od7⟩ : EvO w5 w1.heap.size (af.tmps.getD 14 undef) e := hB.new 14 (of_decide_eq_true (by kernel_rfl))
    obtain ⟨V8, vc8, D8, dc8, h16, ov8, od8⟩ : EvO w5 w1.heap.size (af.tmps.getD 16 undef) e := hB.new 16 (of_decide_eq_true (by kernel_rfl))
    obtain ⟨g7, h7, hg7, k7⟩ : ∃ g, af.tmps.getD 7 undef = .pointer (some ⟨g, 0, none⟩) ∧ w1.heap.size ≤ g ∧ w5.heap[g]? = some (.cells #[.int .u8 0, .int .u16 0, .int .u32 0, .slice none 0 0, .slice none 0 0] 31 (0, 0)) := hB.new 7 (of_decide_eq_true (by kernel_rfl))
    obtain ⟨g8, h8, hg8, k8⟩ : ∃ g, af.tmps.getD 8 undef = .pointer (some ⟨g, 0, none⟩) ∧ w1.heap.size ≤ g ∧ w5.heap[g]? = some (.cells #[.int .u8 0, .int .u16 0, .int .u32 0, .slice none 0 0, .slice none 0 0] 31 (0, 0)) := hB.new 8 (of_decide_eq_true (by kernel_rfl))
    have h13 : af.tmps.getD 13 undef = .agg #[.int .u8 e.node, .int .u16 e.inc, .int .u32 e.seq, .slice V vn vc, .slice D dn dc] := hB.new 13 (of_decide_eq_true (by kernel_rfl))
    have h15 : af.tmps.getD 15 undef = .agg #[.int .u8 e.node, .int .u16 e.inc, .int .u32 e.seq, .slice V vn vc, .slice D dn dc] := hB.new 15 (of_decide_eq_true (by kernel_rfl))
    have n78 : g7 ≠ g8 := by
      rintro rfl
      exact hB.apart 7 (of_decide_eq_true (by kernel_rfl)) 8 (of_decide_eq_true (by kernel_rfl)) (by decide) g7 (.inl ⟨by decide, h7⟩) (.inl ⟨by decide, h8⟩)
    have nv : ∀ g, Value.ownBlock (.slice V7 e.xs.length vc7) = some g → Value.ownBlock (.slice V8 e.xs.length vc8) ≠ some g := fun g hg hg' =>
      hB.apart 14 (of_decide_eq_true (by kernel_rfl)) 16 (of_decide_eq_true (by kernel_rfl)) (by decide) g (.inr ⟨by decide, _, _, _, _, _, _, _, _, _, h14, .inl hg⟩) (.inr ⟨by decide, _, _, _, _, _, _, _, _, _, h16, .inl hg'⟩)
    have nd : ∀ g, Value.ownBlock (.slice D7 e.l.length dc7) = some g → Value.ownBlock (.slice D8 e.l.length dc8) ≠ some g := fun g hg hg' =>
      hB.apart 14 (of_decide_eq_true (by kernel_rfl)) 16 (of_decide_eq_true (by kernel_rfl)) (by decide) g (.inr ⟨by decide, _, _, _, _, _, _, _, _, _, h14, .inr hg⟩) (.inr ⟨by decide, _, _, _, _, _, _, _, _, _, h16, .inr hg'⟩)
    have ef := behind2_fill (ds := [13, 14, 15, 16, 7, 8]) hB (by kernel_rfl)
    have TT : Hid (Two (((((((((((w5.setCell ⟨g7, 0, none⟩ (.int .u8 e.node)).setCell ⟨g7, 1, none⟩ (.int .u16 e.inc)).setCell ⟨g7, 2, none⟩ (.int .u32 e.seq)).setCell ⟨g7, 3, none⟩ (.slice V7 e.xs.length vc7)).setCell ⟨g7, 4, none⟩ (.slice D7 e.l.length dc7)).setCell ⟨g8, 0, none⟩ (.int .u8 e.node)).setCell ⟨g8, 1, none⟩ (.int .u16 e.inc)).setCell ⟨g8, 2, none⟩ (.int .u32 e.seq)).setCell ⟨g8, 3, none⟩ (.slice V8 e.xs.length vc8)).setCell ⟨g8, 4, none⟩ (.slice D8 e.l.length dc8))) w1.heap.size e G0 #[.int .u8 e.node, .int .u16 e.inc, .int .u32 e.seq, .slice V vn vc, .slice D dn dc] g7 g8 V7 vc7 D7 dc7 V8 vc8 D8 dc8) := by
      have k7' := st5_same (a := .int .u8 e.node) (b := .int .u16 e.inc) (c := .int .u32 e.seq) (d := .slice V7 e.xs.length vc7) (e := .slice D7 e.l.length dc7) k7
      have k8' := (st5_other (w := w5) (g := g7) (k := g8) (a := .int .u8 e.node) (b := .int .u16 e.inc) (c := .int .u32 e.seq) (d := .slice V7 e.xs.length vc7) (e := .slice D7 e.l.length dc7) (Ne.symm n78)).trans k8
      have bA := hb.trans (st5_below (w := w5) (a := .int .u8 e.node) (b := .int .u16 e.inc) (c := .int .u32 e.seq) (d := .slice V7 e.xs.length vc7) (e := .slice D7 e.l.length dc7) hg7)
      have a1 := ov7.same5 (a := .int .u8 e.node) (b := .int .u16 e.inc) (c := .int .u32 e.seq) (d := .slice V7 e.xs.length vc7) (e := .slice D7 e.l.length dc7) k7 (by decide)
      have a2 := od7.same5 (a := .int .u8 e.node) (b := .int .u16 e.inc) (c := .int .u32 e.seq) (d := .slice V7 e.xs.length vc7) (e := .slice D7 e.l.length dc7) k7 (by decide)
      have a3 := ov8.same5 (a := .int .u8 e.node) (b := .int .u16 e.inc) (c := .int .u32 e.seq) (d := .slice V7 e.xs.length vc7) (e := .slice D7 e.l.length dc7) k7 (by decide)
      have a4 := od8.same5 (a := .int .u8 e.node) (b := .int .u16 e.inc) (c := .int .u32 e.seq) (d := .slice V7 e.xs.length vc7) (e := .slice D7 e.l.length dc7) k7 (by decide)
      generalize ((((w5.setCell ⟨g7, 0, none⟩ (.int .u8 e.node)).setCell ⟨g7, 1, none⟩ (.int .u16 e.inc)).setCell ⟨g7, 2, none⟩ (.int .u32 e.seq)).setCell ⟨g7, 3, none⟩ (.slice V7 e.xs.length vc7)).setCell ⟨g7, 4, none⟩ (.slice D7 e.l.length dc7) = wA at *
      have bB := bA.trans (st5_below (w := wA) (a := .int .u8 e.node) (b := .int .u16 e.inc) (c := .int .u32 e.seq) (d := .slice V8 e.xs.length vc8) (e := .slice D8 e.l.length dc8) hg8)
      exact ⟨(bB.block _ z1).trans K1.out, (st5_other n78).trans k7', st5_same k8', E1.out.next bB, a1.same5 k8' (by decide), a2.same5 k8' (by decide), a3.same5 k8' (by decide), a4.same5 k8' (by decide), hg7, hg8, n78, nv, nd⟩
    have bW : Below w1.heap.size w1 (((((((((((w5.setCell ⟨g7, 0, none⟩ (.int .u8 e.node)).setCell ⟨g7, 1, none⟩ (.int .u16 e.inc)).setCell ⟨g7, 2, none⟩ (.int .u32 e.seq)).setCell ⟨g7, 3, none⟩ (.slice V7 e.xs.length vc7)).setCell ⟨g7, 4, none⟩ (.slice D7 e.l.length dc7)).setCell ⟨g8, 0, none⟩ (.int .u8 e.node)).setCell ⟨g8, 1, none⟩ (.int .u16 e.inc)).setCell ⟨g8, 2, none⟩ (.int .u32 e.seq)).setCell ⟨g8, 3, none⟩ (.slice V8 e.xs.length vc8)).setCell ⟨g8, 4, none⟩ (.slice D8 e.l.length dc8))) :=
      (hb.trans (st5_below hg7)).trans (st5_below hg8)
    rw [ef]
    simp only [fill, h13, h14, h15, h16, h7, h8]
    simp only [List.drop_succ_cons, List.drop_zero, put_lit, List.set_cons_succ, List.set_cons_zero]
    obtain ⟨c70, c71, c72, c73, c74⟩ := ev_cells k7
    obtain ⟨c80, c81, c82, c83, c84⟩ := ev_cells k8
    have f7 := ev_free k7
    have f8 := ev_free k8
    have n87 := n78.symm
    obtain ⟨c0, c1, c2, c3, c4⟩ := ev_cells ((hb.block G0 z1).trans K1.out)
    have m7 : G0 ≠ g7 := by omega
    have m8 : G0 ≠ g8 := by omega
    have m7' := m7.symm
    have m8' := m8.symm
    have BW := Lib.hid bW
    clear ef h13 h14 h15 h16 h7 h8 hB ov7 od7 ov8 od8 nv nd hb k7 k8 K1 hg7 hg8 bW
    go_wp2_with fail
    clear c70 c71 c72 c73 c74 c80 c81 c82 c83 c84 f7 f8
    generalize (((((((((((w5.setCell ⟨g7, 0, none⟩ (.int .u8 e.node)).setCell ⟨g7, 1, none⟩ (.int .u16 e.inc)).setCell ⟨g7, 2, none⟩ (.int .u32 e.seq)).setCell ⟨g7, 3, none⟩ (.slice V7 e.xs.length vc7)).setCell ⟨g7, 4, none⟩ (.slice D7 e.l.length dc7)).setCell ⟨g8, 0, none⟩ (.int .u8 e.node)).setCell ⟨g8, 1, none⟩ (.int .u16 e.inc)).setCell ⟨g8, 2, none⟩ (.int .u32 e.seq)).setCell ⟨g8, 3, none⟩ (.slice V8 e.xs.length vc8)).setCell ⟨g8, 4, none⟩ (.slice D8 e.l.length dc8))) = w3 at *
    clear c0 c1 c2 c3 c4
    have y0 := TT.out
    obtain ⟨c0, c1, c2, c3, c4⟩ := ev_cells y0.ke
    obtain ⟨c70, c71, c72, c73, c74⟩ := ev_cells y0.kc
    refine (same_of y0.re y0.re (sameB_me e)).mono ?_
    rintro r w4 ⟨rfl, b4⟩
    have T4 := Lib.hid (y0.next b4)
    clear y0 TT c0 c1 c2 c3 c4 c70 c71 c72 c73 c74
    obtain ⟨c0, c1, c2, c3, c4⟩ := ev_cells T4.out.ke
    obtain ⟨c70, c71, c72, c73, c74⟩ := ev_cells T4.out.kc
    go_wp2_with fail
    have RC4 : EvR w4 (.agg #[.int .u8 e.node, .int .u16 e.inc, .int .u32 e.seq, .slice V7 e.xs.length vc7, .slice D7 e.l.length dc7]) e := ⟨V7, _, vc7, D7, _, dc7, rfl, T4.out.v7.sv, T4.out.d7.sv⟩
    refine (same_of T4.out.re RC4 (sameB_me e)).mono ?_
    rintro r w5' ⟨rfl, b5⟩
    have RC5 := Lib.hid (RC4.next b5)
    have T5 := Lib.hid (T4.out.next b5)
    have b45 := thn b4 b5
    clear T4 RC4 c0 c1 c2 c3 c4 c70 c71 c72 c73 c74 b4 b5
    obtain ⟨c0, c1, c2, c3, c4⟩ := ev_cells T5.out.ke
    obtain ⟨c70, c71, c72, c73, c74⟩ := ev_cells T5.out.kc
    go_wp2_with fail
    refine (same_of RC5.out T5.out.re (sameB_me e)).mono ?_
    rintro r w6 ⟨rfl, b6'⟩
    have T6 := Lib.hid (T5.out.next b6')
    have b6 : Below w1.heap.size w1 w6 := BW.out.trans ((thn b45 b6').mono BW.out.size)
    clear T5 RC5 c0 c1 c2 c3 c4 c70 c71 c72 c73 c74 b45 b6' BW
    obtain ⟨c0, c1, c2, c3, c4⟩ := ev_cells T6.out.ke
    obtain ⟨c70, c71, c72, c73, c74⟩ := ev_cells T6.out.kc
    obtain ⟨c80, c81, c82, c83, c84⟩ := ev_cells T6.out.kd
    have f8 := ev_free T6.out.kd
    have hr : pt % 5 = 0 ∨ pt % 5 = 1 ∨ pt % 5 = 2 ∨ pt % 5 = 3 ∨ pt % 5 = 4 := by omega
    rcases hr with hr | hr | hr | hr | hr
    · by_cases hv : 0 < e.xs.length
      · skip
        obtain ⟨kk, hkk, hkl⟩ := mod_lt at_ hv
        obtain ⟨gy, x, rfl, hgy, hx⟩ := own_slotI T6.out.v8 hkl
        obtain ⟨cy, fy, o8⟩ := own_cellI T6.out.v8 hx
        have HX := Lib.hid hx
        clear hx
        have HKK := Lib.hid hkk
        have HLB : e.xs.length ≤ 1000000 ∧ e.l.length ≤ 1000000 := ⟨XA.out, XD.out⟩
        obtain ⟨HLB1, HLB2⟩ := HLB
        have O8 := Lib.hid o8
        obtain ⟨cur, hgb⟩ : ∃ cur, w6.heap[gy]? = some (.cells cur 21 (0, 0)) := own_at T6.out.v8
        have HGB := Lib.hid hgb
        have j0 : (0 : Int) ≤ (kk : Int) := by omega
        have j1 : (kk : Int) < ((e.xs.length : Nat) : Int) := by omega
        have jl : (0 : Int) < ((e.xs.length : Nat) : Int) := by omega
        have jne : ¬ ((e.xs.length : Nat) : Int) = 0 := by omega
        have jn : ¬ e.xs = [] := fun h => by rw [h] at hkl; simp at hkl
        have jtm : Int.tmod at_ ((e.xs.length : Nat) : Int) = (kk : Int) := by rw [Int.tmod_eq_emod_of_nonneg ha0]; exact hkk
        have jwr : IntKind.i64.wrap (kk : Int) = (kk : Int) := IntWalk.i64_in _ (by omega)
        clear o8 O8 hgb HGB
        go_wp2_with fail
        refine wp_region_typed 12 [(49, .val (.pointer (some ⟨g8, 3, none⟩))), (50, .val (.slice (some ⟨gy, 0, none⟩) e.xs.length vc8)), (51, .val (.int .u8 at_)), (52, .val (.int .i64 at_)), (53, .val (.pointer (some ⟨g8, 3, none⟩))), (54, .val (.slice (some ⟨gy, 0, none⟩) e.xs.length vc8)), (55, .val (.int .i64 ((e.xs.length : Nat) : Int))), (56, .val (.int .i64 (kk : Int))), (57, .val (.pointer (some ⟨gy, kk, none⟩))), (58, .val (.int .i32 x)), (59, .val (.int .i32 (bits .xor .i32 x 1))), (60, .val (.pointer (some ⟨gy, kk, none⟩)))] [[], [49], [], [51], [], [53], [54], [52, 55], [50, 56], [57], [58], [50, 56]] (by kernel_rfl) (by kernel_rfl) ?_ ?_
        rotate_left
        · intro w6n hb
          simp only [List.take_succ_cons, List.take_zero, List.drop_succ_cons, List.drop_zero]
          repeat refine over_val rfl ?_
          refine over_nil ?_
          simp only [put_lit, List.set_cons_succ, List.set_cons_zero]
          have T6n := Lib.hid (T6.out.next hb)
          have b6n : Below w1.heap.size w1 w6n := b6.trans (hb.mono b6.size)
          clear c0 c1 c2 c3 c4 c70 c71 c72 c73 c74 c80 c81 c82 c83 c84 f8 T6 b6 cy fy hb
          have T6 := T6n
          have b6 := b6n
          clear T6n b6n
          obtain ⟨c0, c1, c2, c3, c4⟩ := ev_cells T6.out.ke
          obtain ⟨c70, c71, c72, c73, c74⟩ := ev_cells T6.out.kc
          obtain ⟨c80, c81, c82, c83, c84⟩ := ev_cells T6.out.kd
          obtain ⟨cz, fz, o9⟩ := own_cellI T6.out.v8 HX.out
          have o8 := o9 (bits .xor .i32 x 1)
          clear o9
          have O8 := Lib.hid o8
          obtain ⟨cur, hgb⟩ : ∃ cur, w6n.heap[gy]? = some (.cells cur 21 (0, 0)) := own_at T6.out.v8
          clear o8
          have x1 : G0 ≠ gy := blk_ne T6.out.ke hgb (by decide)
          have x2 : g7 ≠ gy := blk_ne T6.out.kc hgb (by decide)
          have x3 : g8 ≠ gy := blk_ne T6.out.kd hgb (by decide)
          have x4 := x1.symm
          have x5 := x2.symm
          have x6 := x3.symm
          have HGB := Lib.hid hgb
          clear hgb
          go_wp2_with fail
          have hgb := HGB.out
          clear HGB
          have HN : Hid (sameB e ⟨e.node, e.inc, e.seq, e.xs.set kk (bits .xor .i32 x 1), e.l⟩ = false) := sameB_xs _ _ _ _ (set_ne HX.out (xor1_i32 _))
          have b7 : Below w1.heap.size w1 (w6n.setCell ⟨gy, kk, none⟩ (.int .i32 (bits .xor .i32 x 1))) := b6.setCell (p := ⟨gy, kk, none⟩) hgy (.int .i32 (bits .xor .i32 x 1))
          have KE7 : Hid ((w6n.setCell ⟨gy, kk, none⟩ (.int .i32 (bits .xor .i32 x 1))).heap[G0]? = _) := (Below.heap_setCell w6n ⟨gy, kk, none⟩ (.int .i32 (bits .xor .i32 x 1)) _ (blk_ne T6.out.ke hgb (by decide))).trans T6.out.ke
          have KC7 : Hid ((w6n.setCell ⟨gy, kk, none⟩ (.int .i32 (bits .xor .i32 x 1))).heap[g7]? = _) := (Below.heap_setCell w6n ⟨gy, kk, none⟩ (.int .i32 (bits .xor .i32 x 1)) _ (blk_ne T6.out.kc hgb (by decide))).trans T6.out.kc
          have KD7 : Hid ((w6n.setCell ⟨gy, kk, none⟩ (.int .i32 (bits .xor .i32 x 1))).heap[g8]? = _) := (Below.heap_setCell w6n ⟨gy, kk, none⟩ (.int .i32 (bits .xor .i32 x 1)) _ (blk_ne T6.out.kd hgb (by decide))).trans T6.out.kd
          have RE7 := Lib.hid (E1.out.next b7)
          have RC7 : Hid (EvR (w6n.setCell ⟨gy, kk, none⟩ (.int .i32 (bits .xor .i32 x 1))) (.agg #[.int .u8 e.node, .int .u16 e.inc, .int .u32 e.seq, .slice V7 e.xs.length vc7, .slice D7 e.l.length dc7]) e) := ⟨V7, _, vc7, D7, _, dc7, rfl, (T6.out.v7.same (fun g hg => Below.heap_setCell _ ⟨gy, kk, none⟩ _ _ (fun e => T6.out.nv g hg (by rw [show g = gy from e]; rfl)))).sv, (T6.out.d7.same (fun g hg => Below.heap_setCell _ ⟨gy, kk, none⟩ _ _ (fun e => T6.out.d7.ne hgb (by decide) (by rw [← show g = gy from e]; exact hg)))).sv⟩
          have RD7 : Hid (EvR (w6n.setCell ⟨gy, kk, none⟩ (.int .i32 (bits .xor .i32 x 1))) (.agg #[.int .u8 e.node, .int .u16 e.inc, .int .u32 e.seq, .slice (some ⟨gy, 0, none⟩) e.xs.length vc8, .slice D8 e.l.length dc8]) ⟨e.node, e.inc, e.seq, e.xs.set kk (bits .xor .i32 x 1), e.l⟩) := by
            have r : EvR (w6n.setCell ⟨gy, kk, none⟩ (.int .i32 (bits .xor .i32 x 1))) (.agg #[.int .u8 e.node, .int .u16 e.inc, .int .u32 e.seq, .slice (some ⟨gy, 0, none⟩) e.xs.length vc8, .slice D8 e.l.length dc8]) ⟨e.node, e.inc, e.seq, e.xs.set kk (bits .xor .i32 x 1), e.l⟩ := ⟨some ⟨gy, 0, none⟩, _, vc8, D8, _, dc8, rfl, O8.out.sv, (T6.out.d8.same (fun g hg => Below.heap_setCell _ ⟨gy, kk, none⟩ _ _ (fun e => T6.out.d8.ne hgb (by decide) (by rw [← show g = gy from e]; exact hg)))).sv⟩
            exact r
          clear c0 c1 c2 c3 c4 c70 c71 c72 c73 c74 c80 c81 c82 c83 c84 T6 E1 b6 hgb O8 cz fz
          generalize (w6n.setCell ⟨gy, kk, none⟩ (.int .i32 (bits .xor .i32 x 1))) = w7 at *
          refine (same_of RE7.out RD7.out HN.out).mono ?_
          rintro r w8 ⟨rfl, b8⟩
          have ke := (b8.block _ (Array.getElem?_eq_some_iff.1 KE7.out).1).trans KE7.out
          have kc := (b8.block _ (Array.getElem?_eq_some_iff.1 KC7.out).1).trans KC7.out
          have kd := (b8.block _ (Array.getElem?_eq_some_iff.1 KD7.out).1).trans KD7.out
          obtain ⟨c0, c1, c2, c3, c4⟩ := ev_cells ke
          obtain ⟨c70, c71, c72, c73, c74⟩ := ev_cells kc
          obtain ⟨c80, c81, c82, c83, c84⟩ := ev_cells kd
          have KE8 := Lib.hid ke
          have KC8 := Lib.hid kc
          have KD8 := Lib.hid kd
          clear ke kc kd
          go_wp2_with fail
          refine (same_of (RD7.out.next b8) (RE7.out.next b8) ((sameB_comm _ _).trans HN.out)).mono ?_
          rintro r w9 ⟨rfl, b9⟩
          clear c0 c1 c2 c3 c4 c70 c71 c72 c73 c74 c80 c81 c82 c83 c84
          obtain ⟨c0, c1, c2, c3, c4⟩ := ev_cells ((b9.block _ (Array.getElem?_eq_some_iff.1 KE8.out).1).trans KE8.out)
          obtain ⟨c70, c71, c72, c73, c74⟩ := ev_cells ((b9.block _ (Array.getElem?_eq_some_iff.1 KC8.out).1).trans KC8.out)
          go_wp2_with fail
          refine (same_of (RE7.out.next (thn b8 b9)) (RC7.out.next (thn b8 b9)) (sameB_me e)).mono ?_
          rintro r w10 ⟨rfl, b10⟩
          go_wp2_with fail
          refine (awake_any w10).mono ?_
          rintro r w11 ⟨rfl, b11⟩
          go_wp2
          go_ret
          exact ⟨rfl, thn bb (b7.trans ((thn (thn (thn b8 b9) b10) b11).mono b7.size))⟩
        simp only [List.take_succ_cons, List.take_zero]
        refine ⟨?_, ?_, ?_, ?_, ?_, ?_, ?_, ?_, ?_, ?_, ?_, ?_, trivial⟩
        all_goals
          intro w6n hb
          repeat refine over_val rfl ?_
          refine over_nil ?_
          obtain ⟨d0, d1, d2, d3, d4⟩ := ev_cells ((hb.block g8 (Array.getElem?_eq_some_iff.1 T6.out.kd).1).trans T6.out.kd)
          have d5 := (hb.cell (p := ⟨gy, kk, none⟩) (World.block_lt_of_cell? w6 _ cy)).trans cy
          have d6 := (hb.frozen (p := ⟨gy, kk, none⟩) (World.block_lt_of_cell? w6 _ cy)).trans fy
          have hkk2 := HKK.out
          go_wp2
          exact post_of (by rfl) (by rfl) (Below.refl _ _) (by rfl)
      · have hv0 : ((e.xs.length : Nat) : Int) = 0 := by omega
        go_wp2_with fail
        have HN : Hid (sameB e ⟨bits .xor .u8 e.node 1, e.inc, e.seq, e.xs, e.l⟩ = false) := sameB_id (by intro h; exact xor1_u8 _ (h.1).symm)
        have b7 := b6.setCell (p := ⟨g8, 0, none⟩) T6.out.b8 (.int .u8 (bits .xor .u8 e.node 1))
        have KE7 : Hid ((w6.setCell ⟨g8, 0, none⟩ (.int .u8 (bits .xor .u8 e.node 1))).heap[G0]? = _) := (Below.heap_setCell _ ⟨g8, 0, none⟩ _ _ m8).trans T6.out.ke
        have KC7 : Hid ((w6.setCell ⟨g8, 0, none⟩ (.int .u8 (bits .xor .u8 e.node 1))).heap[g7]? = _) := (Below.heap_setCell _ ⟨g8, 0, none⟩ _ _ n78).trans T6.out.kc
        have KD7 : Hid ((w6.setCell ⟨g8, 0, none⟩ (.int .u8 (bits .xor .u8 e.node 1))).heap[g8]? = some (.cells #[.int .u8 (bits .xor .u8 e.node 1), .int .u16 e.inc, .int .u32 e.seq, .slice V8 e.xs.length vc8, .slice D8 e.l.length dc8] 31 (0, 0))) := Go.Joins.block_setCell (i := 0) T6.out.kd (.int .u8 (bits .xor .u8 e.node 1))
        have RE7 := Lib.hid (E1.out.next b7)
        have RC7 : Hid (EvR (w6.setCell ⟨g8, 0, none⟩ (.int .u8 (bits .xor .u8 e.node 1))) (.agg #[.int .u8 e.node, .int .u16 e.inc, .int .u32 e.seq, .slice V7 e.xs.length vc7, .slice D7 e.l.length dc7]) e) := ⟨V7, _, vc7, D7, _, dc7, rfl, (T6.out.v7.off T6.out.kd (by decide) 0 _).sv, (T6.out.d7.off T6.out.kd (by decide) 0 _).sv⟩
        have RD7 : Hid (EvR (w6.setCell ⟨g8, 0, none⟩ (.int .u8 (bits .xor .u8 e.node 1))) (.agg #[.int .u8 (bits .xor .u8 e.node 1), .int .u16 e.inc, .int .u32 e.seq, .slice V8 e.xs.length vc8, .slice D8 e.l.length dc8]) ⟨bits .xor .u8 e.node 1, e.inc, e.seq, e.xs, e.l⟩) := ⟨V8, _, vc8, D8, _, dc8, rfl, (T6.out.v8.off T6.out.kd (by decide) 0 _).sv, (T6.out.d8.off T6.out.kd (by decide) 0 _).sv⟩
        clear c0 c1 c2 c3 c4 c70 c71 c72 c73 c74 c80 c81 c82 c83 c84 f8 T6 E1 b6
        generalize w6.setCell ⟨g8, 0, none⟩ (.int .u8 (bits .xor .u8 e.node 1)) = w7 at *
        refine (same_of RE7.out RD7.out HN.out).mono ?_
        rintro r w8 ⟨rfl, b8⟩
        have ke := (b8.block _ (Array.getElem?_eq_some_iff.1 KE7.out).1).trans KE7.out
        have kc := (b8.block _ (Array.getElem?_eq_some_iff.1 KC7.out).1).trans KC7.out
        have kd := (b8.block _ (Array.getElem?_eq_some_iff.1 KD7.out).1).trans KD7.out
        obtain ⟨c0, c1, c2, c3, c4⟩ := ev_cells ke
        obtain ⟨c70, c71, c72, c73, c74⟩ := ev_cells kc
        obtain ⟨c80, c81, c82, c83, c84⟩ := ev_cells kd
        have KE8 := Lib.hid ke
        have KC8 := Lib.hid kc
        have KD8 := Lib.hid kd
        clear ke kc kd
        go_wp2_with fail
        refine (same_of (RD7.out.next b8) (RE7.out.next b8) ((sameB_comm _ _).trans HN.out)).mono ?_
        rintro r w9 ⟨rfl, b9⟩
        clear c0 c1 c2 c3 c4 c70 c71 c72 c73 c74 c80 c81 c82 c83 c84
        obtain ⟨c0, c1, c2, c3, c4⟩ := ev_cells ((b9.block _ (Array.getElem?_eq_some_iff.1 KE8.out).1).trans KE8.out)
        obtain ⟨c70, c71, c72, c73, c74⟩ := ev_cells ((b9.block _ (Array.getElem?_eq_some_iff.1 KC8.out).1).trans KC8.out)
        go_wp2_with fail
        refine (same_of (RE7.out.next (thn b8 b9)) (RC7.out.next (thn b8 b9)) (sameB_me e)).mono ?_
        rintro r w10 ⟨rfl, b10⟩
        go_wp2_with fail
        refine (awake_any w10).mono ?_
        rintro r w11 ⟨rfl, b11⟩
        go_wp2
        go_ret
        exact ⟨rfl, thn bb (b7.trans ((thn (thn (thn b8 b9) b10) b11).mono b7.size))⟩
    · by_cases hv : 0 < e.l.length
      · skip
        obtain ⟨kk, hkk, hkl⟩ := mod_lt at_ hv
        obtain ⟨gy, u, rfl, hgy, hx⟩ := own_slotB T6.out.d8 hkl
        obtain ⟨cy, fy, o8⟩ := own_cellB T6.out.d8 hx
        have HX := Lib.hid hx
        clear hx
        obtain ⟨v, hxu, hvu⟩ := xor1_ex u
        have HVU := Lib.hid hvu
        clear hvu
        have HKK := Lib.hid hkk
        have HLB : e.xs.length ≤ 1000000 ∧ e.l.length ≤ 1000000 := ⟨XA.out, XD.out⟩
        obtain ⟨HLB1, HLB2⟩ := HLB
        have O8 := Lib.hid o8
        obtain ⟨cur, hgb⟩ : ∃ cur, w6.heap[gy]? = some (.cells cur 5 (0, 0)) := own_at T6.out.d8
        have HGB := Lib.hid hgb
        have j0 : (0 : Int) ≤ (kk : Int) := by omega
        have j1 : (kk : Int) < ((e.l.length : Nat) : Int) := by omega
        have jl : (0 : Int) < ((e.l.length : Nat) : Int) := by omega
        have jne : ¬ ((e.l.length : Nat) : Int) = 0 := by omega
        have jn : ¬ e.l = [] := fun h => by rw [h] at hkl; simp at hkl
        have jtm : Int.tmod at_ ((e.l.length : Nat) : Int) = (kk : Int) := by rw [Int.tmod_eq_emod_of_nonneg ha0]; exact hkk
        have jwr : IntKind.i64.wrap (kk : Int) = (kk : Int) := IntWalk.i64_in _ (by omega)
        clear o8 O8 hgb HGB
        go_wp2_with fail
        refine wp_region_typed 12 [(71, .val (.pointer (some ⟨g8, 4, none⟩))), (72, .val (.slice (some ⟨gy, 0, none⟩) e.l.length dc8)), (73, .val (.int .u8 at_)), (74, .val (.int .i64 at_)), (75, .val (.pointer (some ⟨g8, 4, none⟩))), (76, .val (.slice (some ⟨gy, 0, none⟩) e.l.length dc8)), (77, .val (.int .i64 ((e.l.length : Nat) : Int))), (78, .val (.int .i64 (kk : Int))), (79, .val (.pointer (some ⟨gy, kk, none⟩))), (80, .val (.int .u8 (u.toNat : Int))), (81, .val (.int .u8 (v.toNat : Int))), (82, .val (.pointer (some ⟨gy, kk, none⟩)))] [[], [71], [], [73], [], [75], [76], [74, 77], [72, 78], [79], [80], [72, 78]] (by kernel_rfl) (by kernel_rfl) ?_ ?_
        rotate_left
        · intro w6n hb
          simp only [List.take_succ_cons, List.take_zero, List.drop_succ_cons, List.drop_zero]
          repeat refine over_val rfl ?_
          refine over_nil ?_
          simp only [put_lit, List.set_cons_succ, List.set_cons_zero]
          have T6n := Lib.hid (T6.out.next hb)
          have b6n : Below w1.heap.size w1 w6n := b6.trans (hb.mono b6.size)
          clear c0 c1 c2 c3 c4 c70 c71 c72 c73 c74 c80 c81 c82 c83 c84 f8 T6 b6 cy fy hb
          have T6 := T6n
          have b6 := b6n
          clear T6n b6n
          obtain ⟨c0, c1, c2, c3, c4⟩ := ev_cells T6.out.ke
          obtain ⟨c70, c71, c72, c73, c74⟩ := ev_cells T6.out.kc
          obtain ⟨c80, c81, c82, c83, c84⟩ := ev_cells T6.out.kd
          obtain ⟨cz, fz, o9⟩ := own_cellB T6.out.d8 HX.out
          have o8 := o9 v
          clear o9
          have O8 := Lib.hid o8
          obtain ⟨cur, hgb⟩ : ∃ cur, w6n.heap[gy]? = some (.cells cur 5 (0, 0)) := own_at T6.out.d8
          clear o8
          have x1 : G0 ≠ gy := blk_ne T6.out.ke hgb (by decide)
          have x2 : g7 ≠ gy := blk_ne T6.out.kc hgb (by decide)
          have x3 : g8 ≠ gy := blk_ne T6.out.kd hgb (by decide)
          have x4 := x1.symm
          have x5 := x2.symm
          have x6 := x3.symm
          have HGB := Lib.hid hgb
          clear hgb
          go_wp2_with fail
          have hgb := HGB.out
          clear HGB
          have HN : Hid (sameB e ⟨e.node, e.inc, e.seq, e.xs, e.l.set kk v⟩ = false) := sameB_l _ _ _ _ (set_ne HX.out HVU.out)
          have b7 : Below w1.heap.size w1 (w6n.setCell ⟨gy, kk, none⟩ (.int .u8 (v.toNat : Int))) := b6.setCell (p := ⟨gy, kk, none⟩) hgy (.int .u8 (v.toNat : Int))
          have KE7 : Hid ((w6n.setCell ⟨gy, kk, none⟩ (.int .u8 (v.toNat : Int))).heap[G0]? = _) := (Below.heap_setCell w6n ⟨gy, kk, none⟩ (.int .u8 (v.toNat : Int)) _ (blk_ne T6.out.ke hgb (by decide))).trans T6.out.ke
          have KC7 : Hid ((w6n.setCell ⟨gy, kk, none⟩ (.int .u8 (v.toNat : Int))).heap[g7]? = _) := (Below.heap_setCell w6n ⟨gy, kk, none⟩ (.int .u8 (v.toNat : Int)) _ (blk_ne T6.out.kc hgb (by decide))).trans T6.out.kc
          have KD7 : Hid ((w6n.setCell ⟨gy, kk, none⟩ (.int .u8 (v.toNat : Int))).heap[g8]? = _) := (Below.heap_setCell w6n ⟨gy, kk, none⟩ (.int .u8 (v.toNat : Int)) _ (blk_ne T6.out.kd hgb (by decide))).trans T6.out.kd
          have RE7 := Lib.hid (E1.out.next b7)
          have RC7 : Hid (EvR (w6n.setCell ⟨gy, kk, none⟩ (.int .u8 (v.toNat : Int))) (.agg #[.int .u8 e.node, .int .u16 e.inc, .int .u32 e.seq, .slice V7 e.xs.length vc7, .slice D7 e.l.length dc7]) e) := ⟨V7, _, vc7, D7, _, dc7, rfl, (T6.out.v7.same (fun g hg => Below.heap_setCell _ ⟨gy, kk, none⟩ _ _ (fun e => T6.out.v7.ne hgb (by decide) (by rw [← show g = gy from e]; exact hg)))).sv, (T6.out.d7.same (fun g hg => Below.heap_setCell _ ⟨gy, kk, none⟩ _ _ (fun e => T6.out.nd g hg (by rw [show g = gy from e]; rfl)))).sv⟩
          have RD7 : Hid (EvR (w6n.setCell ⟨gy, kk, none⟩ (.int .u8 (v.toNat : Int))) (.agg #[.int .u8 e.node, .int .u16 e.inc, .int .u32 e.seq, .slice V8 e.xs.length vc8, .slice (some ⟨gy, 0, none⟩) e.l.length dc8]) ⟨e.node, e.inc, e.seq, e.xs, e.l.set kk v⟩) := by
            have r : EvR (w6n.setCell ⟨gy, kk, none⟩ (.int .u8 (v.toNat : Int))) (.agg #[.int .u8 e.node, .int .u16 e.inc, .int .u32 e.seq, .slice V8 e.xs.length vc8, .slice (some ⟨gy, 0, none⟩) e.l.length dc8]) ⟨e.node, e.inc, e.seq, e.xs, e.l.set kk v⟩ := ⟨V8, _, vc8, some ⟨gy, 0, none⟩, _, dc8, rfl, (T6.out.v8.same (fun g hg => Below.heap_setCell _ ⟨gy, kk, none⟩ _ _ (fun e => T6.out.v8.ne hgb (by decide) (by rw [← show g = gy from e]; exact hg)))).sv, O8.out.sv⟩
            exact r
          clear c0 c1 c2 c3 c4 c70 c71 c72 c73 c74 c80 c81 c82 c83 c84 T6 E1 b6 hgb O8 cz fz
          generalize (w6n.setCell ⟨gy, kk, none⟩ (.int .u8 (v.toNat : Int))) = w7 at *
          refine (same_of RE7.out RD7.out HN.out).mono ?_
          rintro r w8 ⟨rfl, b8⟩
          have ke := (b8.block _ (Array.getElem?_eq_some_iff.1 KE7.out).1).trans KE7.out
          have kc := (b8.block _ (Array.getElem?_eq_some_iff.1 KC7.out).1).trans KC7.out
          have kd := (b8.block _ (Array.getElem?_eq_some_iff.1 KD7.out).1).trans KD7.out
          obtain ⟨c0, c1, c2, c3, c4⟩ := ev_cells ke
          obtain ⟨c70, c71, c72, c73, c74⟩ := ev_cells kc
          obtain ⟨c80, c81, c82, c83, c84⟩ := ev_cells kd
          have KE8 := Lib.hid ke
          have KC8 := Lib.hid kc
          have KD8 := Lib.hid kd
          clear ke kc kd
          go_wp2_with fail
          refine (same_of (RD7.out.next b8) (RE7.out.next b8) ((sameB_comm _ _).trans HN.out)).mono ?_
          rintro r w9 ⟨rfl, b9⟩
          clear c0 c1 c2 c3 c4 c70 c71 c72 c73 c74 c80 c81 c82 c83 c84
          obtain ⟨c0, c1, c2, c3, c4⟩ := ev_cells ((b9.block _ (Array.getElem?_eq_some_iff.1 KE8.out).1).trans KE8.out)
          obtain ⟨c70, c71, c72, c73, c74⟩ := ev_cells ((b9.block _ (Array.getElem?_eq_some_iff.1 KC8.out).1).trans KC8.out)
          go_wp2_with fail
          refine (same_of (RE7.out.next (thn b8 b9)) (RC7.out.next (thn b8 b9)) (sameB_me e)).mono ?_
          rintro r w10 ⟨rfl, b10⟩
          go_wp2_with fail
          refine (awake_any w10).mono ?_
          rintro r w11 ⟨rfl, b11⟩
          go_wp2
          go_ret
          exact ⟨rfl, thn bb (b7.trans ((thn (thn (thn b8 b9) b10) b11).mono b7.size))⟩
        simp only [List.take_succ_cons, List.take_zero]
        refine ⟨?_, ?_, ?_, ?_, ?_, ?_, ?_, ?_, ?_, ?_, ?_, ?_, trivial⟩
        all_goals
          intro w6n hb
          repeat refine over_val rfl ?_
          refine over_nil ?_
          obtain ⟨d0, d1, d2, d3, d4⟩ := ev_cells ((hb.block g8 (Array.getElem?_eq_some_iff.1 T6.out.kd).1).trans T6.out.kd)
          have d5 := (hb.cell (p := ⟨gy, kk, none⟩) (World.block_lt_of_cell? w6 _ cy)).trans cy
          have d6 := (hb.frozen (p := ⟨gy, kk, none⟩) (World.block_lt_of_cell? w6 _ cy)).trans fy
          have hkk2 := HKK.out
          go_wp2
          exact post_of (by rfl) (by rfl) (Below.refl _ _) (by rfl)
      · have hv0 : ((e.l.length : Nat) : Int) = 0 := by omega
        go_wp2_with fail
        have HN : Hid (sameB e ⟨bits .xor .u8 e.node 1, e.inc, e.seq, e.xs, e.l⟩ = false) := sameB_id (by intro h; exact xor1_u8 _ (h.1).symm)
        have b7 := b6.setCell (p := ⟨g8, 0, none⟩) T6.out.b8 (.int .u8 (bits .xor .u8 e.node 1))
        have KE7 : Hid ((w6.setCell ⟨g8, 0, none⟩ (.int .u8 (bits .xor .u8 e.node 1))).heap[G0]? = _) := (Below.heap_setCell _ ⟨g8, 0, none⟩ _ _ m8).trans T6.out.ke
        have KC7 : Hid ((w6.setCell ⟨g8, 0, none⟩ (.int .u8 (bits .xor .u8 e.node 1))).heap[g7]? = _) := (Below.heap_setCell _ ⟨g8, 0, none⟩ _ _ n78).trans T6.out.kc
        have KD7 : Hid ((w6.setCell ⟨g8, 0, none⟩ (.int .u8 (bits .xor .u8 e.node 1))).heap[g8]? = some (.cells #[.int .u8 (bits .xor .u8 e.node 1), .int .u16 e.inc, .int .u32 e.seq, .slice V8 e.xs.length vc8, .slice D8 e.l.length dc8] 31 (0, 0))) := Go.Joins.block_setCell (i := 0) T6.out.kd (.int .u8 (bits .xor .u8 e.node 1))
        have RE7 := Lib.hid (E1.out.next b7)
        have RC7 : Hid (EvR (w6.setCell ⟨g8, 0, none⟩ (.int .u8 (bits .xor .u8 e.node 1))) (.agg #[.int .u8 e.node, .int .u16 e.inc, .int .u32 e.seq, .slice V7 e.xs.length vc7, .slice D7 e.l.length dc7]) e) := ⟨V7, _, vc7, D7, _, dc7, rfl, (T6.out.v7.off T6.out.kd (by decide) 0 _).sv, (T6.out.d7.off T6.out.kd (by decide) 0 _).sv⟩
        have RD7 : Hid (EvR (w6.setCell ⟨g8, 0, none⟩ (.int .u8 (bits .xor .u8 e.node 1))) (.agg #[.int .u8 (bits .xor .u8 e.node 1), .int .u16 e.inc, .int .u32 e.seq, .slice V8 e.xs.length vc8, .slice D8 e.l.length dc8]) ⟨bits .xor .u8 e.node 1, e.inc, e.seq, e.xs, e.l⟩) := ⟨V8, _, vc8, D8, _, dc8, rfl, (T6.out.v8.off T6.out.kd (by decide) 0 _).sv, (T6.out.d8.off T6.out.kd (by decide) 0 _).sv⟩
        clear c0 c1 c2 c3 c4 c70 c71 c72 c73 c74 c80 c81 c82 c83 c84 f8 T6 E1 b6
        generalize w6.setCell ⟨g8, 0, none⟩ (.int .u8 (bits .xor .u8 e.node 1)) = w7 at *
        refine (same_of RE7.out RD7.out HN.out).mono ?_
        rintro r w8 ⟨rfl, b8⟩
        have ke := (b8.block _ (Array.getElem?_eq_some_iff.1 KE7.out).1).trans KE7.out
        have kc := (b8.block _ (Array.getElem?_eq_some_iff.1 KC7.out).1).trans KC7.out
        have kd := (b8.block _ (Array.getElem?_eq_some_iff.1 KD7.out).1).trans KD7.out
        obtain ⟨c0, c1, c2, c3, c4⟩ := ev_cells ke
        obtain ⟨c70, c71, c72, c73, c74⟩ := ev_cells kc
        obtain ⟨c80, c81, c82, c83, c84⟩ := ev_cells kd
        have KE8 := Lib.hid ke
        have KC8 := Lib.hid kc
        have KD8 := Lib.hid kd
        clear ke kc kd
        go_wp2_with fail
        refine (same_of (RD7.out.next b8) (RE7.out.next b8) ((sameB_comm _ _).trans HN.out)).mono ?_
        rintro r w9 ⟨rfl, b9⟩
        clear c0 c1 c2 c3 c4 c70 c71 c72 c73 c74 c80 c81 c82 c83 c84
        obtain ⟨c0, c1, c2, c3, c4⟩ := ev_cells ((b9.block _ (Array.getElem?_eq_some_iff.1 KE8.out).1).trans KE8.out)
        obtain ⟨c70, c71, c72, c73, c74⟩ := ev_cells ((b9.block _ (Array.getElem?_eq_some_iff.1 KC8.out).1).trans KC8.out)
        go_wp2_with fail
        refine (same_of (RE7.out.next (thn b8 b9)) (RC7.out.next (thn b8 b9)) (sameB_me e)).mono ?_
        rintro r w10 ⟨rfl, b10⟩
        go_wp2_with fail
        refine (awake_any w10).mono ?_
        rintro r w11 ⟨rfl, b11⟩
        go_wp2
        go_ret
        exact ⟨rfl, thn bb (b7.trans ((thn (thn (thn b8 b9) b10) b11).mono b7.size))⟩
    · skip
      go_wp2_with fail
      have HN : Hid (sameB e ⟨e.node, e.inc, bits .xor .u32 e.seq 1, e.xs, e.l⟩ = false) := sameB_id (by intro h; exact xor1_u32 _ (h.2.2).symm)
      have b7 := b6.setCell (p := ⟨g8, 2, none⟩) T6.out.b8 (.int .u32 (bits .xor .u32 e.seq 1))
      have KE7 : Hid ((w6.setCell ⟨g8, 2, none⟩ (.int .u32 (bits .xor .u32 e.seq 1))).heap[G0]? = _) := (Below.heap_setCell _ ⟨g8, 2, none⟩ _ _ m8).trans T6.out.ke
      have KC7 : Hid ((w6.setCell ⟨g8, 2, none⟩ (.int .u32 (bits .xor .u32 e.seq 1))).heap[g7]? = _) := (Below.heap_setCell _ ⟨g8, 2, none⟩ _ _ n78).trans T6.out.kc
      have KD7 : Hid ((w6.setCell ⟨g8, 2, none⟩ (.int .u32 (bits .xor .u32 e.seq 1))).heap[g8]? = some (.cells #[.int .u8 e.node, .int .u16 e.inc, .int .u32 (bits .xor .u32 e.seq 1), .slice V8 e.xs.length vc8, .slice D8 e.l.length dc8] 31 (0, 0))) := Go.Joins.block_setCell (i := 2) T6.out.kd (.int .u32 (bits .xor .u32 e.seq 1))
      have RE7 := Lib.hid (E1.out.next b7)
      have RC7 : Hid (EvR (w6.setCell ⟨g8, 2, none⟩ (.int .u32 (bits .xor .u32 e.seq 1))) (.agg #[.int .u8 e.node, .int .u16 e.inc, .int .u32 e.seq, .slice V7 e.xs.length vc7, .slice D7 e.l.length dc7]) e) := ⟨V7, _, vc7, D7, _, dc7, rfl, (T6.out.v7.off T6.out.kd (by decide) 2 _).sv, (T6.out.d7.off T6.out.kd (by decide) 2 _).sv⟩
      have RD7 : Hid (EvR (w6.setCell ⟨g8, 2, none⟩ (.int .u32 (bits .xor .u32 e.seq 1))) (.agg #[.int .u8 e.node, .int .u16 e.inc, .int .u32 (bits .xor .u32 e.seq 1), .slice V8 e.xs.length vc8, .slice D8 e.l.length dc8]) ⟨e.node, e.inc, bits .xor .u32 e.seq 1, e.xs, e.l⟩) := ⟨V8, _, vc8, D8, _, dc8, rfl, (T6.out.v8.off T6.out.kd (by decide) 2 _).sv, (T6.out.d8.off T6.out.kd (by decide) 2 _).sv⟩
      clear c0 c1 c2 c3 c4 c70 c71 c72 c73 c74 c80 c81 c82 c83 c84 f8 T6 E1 b6
      generalize w6.setCell ⟨g8, 2, none⟩ (.int .u32 (bits .xor .u32 e.seq 1)) = w7 at *
      refine (same_of RE7.out RD7.out HN.out).mono ?_
      rintro r w8 ⟨rfl, b8⟩
      have ke := (b8.block _ (Array.getElem?_eq_some_iff.1 KE7.out).1).trans KE7.out
      have kc := (b8.block _ (Array.getElem?_eq_some_iff.1 KC7.out).1).trans KC7.out
      have kd := (b8.block _ (Array.getElem?_eq_some_iff.1 KD7.out).1).trans KD7.out
      obtain ⟨c0, c1, c2, c3, c4⟩ := ev_cells ke
      obtain ⟨c70, c71, c72, c73, c74⟩ := ev_cells kc
      obtain ⟨c80, c81, c82, c83, c84⟩ := ev_cells kd
      have KE8 := Lib.hid ke
      have KC8 := Lib.hid kc
      have KD8 := Lib.hid kd
      clear ke kc kd
      go_wp2_with fail
      refine (same_of (RD7.out.next b8) (RE7.out.next b8) ((sameB_comm _ _).trans HN.out)).mono ?_
      rintro r w9 ⟨rfl, b9⟩
      clear c0 c1 c2 c3 c4 c70 c71 c72 c73 c74 c80 c81 c82 c83 c84
      obtain ⟨c0, c1, c2, c3, c4⟩ := ev_cells ((b9.block _ (Array.getElem?_eq_some_iff.1 KE8.out).1).trans KE8.out)
      obtain ⟨c70, c71, c72, c73, c74⟩ := ev_cells ((b9.block _ (Array.getElem?_eq_some_iff.1 KC8.out).1).trans KC8.out)
      go_wp2_with fail
      refine (same_of (RE7.out.next (thn b8 b9)) (RC7.out.next (thn b8 b9)) (sameB_me e)).mono ?_
      rintro r w10 ⟨rfl, b10⟩
      go_wp2_with fail
      refine (awake_any w10).mono ?_
      rintro r w11 ⟨rfl, b11⟩
      go_wp2
      go_ret
      exact ⟨rfl, thn bb (b7.trans ((thn (thn (thn b8 b9) b10) b11).mono b7.size))⟩
    · skip
      go_wp2_with fail
      have HN : Hid (sameB e ⟨e.node, bits .xor .u16 e.inc 1, e.seq, e.xs, e.l⟩ = false) := sameB_id (by intro h; exact xor1_u16 _ (h.2.1).symm)
      have b7 := b6.setCell (p := ⟨g8, 1, none⟩) T6.out.b8 (.int .u16 (bits .xor .u16 e.inc 1))
      have KE7 : Hid ((w6.setCell ⟨g8, 1, none⟩ (.int .u16 (bits .xor .u16 e.inc 1))).heap[G0]? = _) := (Below.heap_setCell _ ⟨g8, 1, none⟩ _ _ m8).trans T6.out.ke
      have KC7 : Hid ((w6.setCell ⟨g8, 1, none⟩ (.int .u16 (bits .xor .u16 e.inc 1))).heap[g7]? = _) := (Below.heap_setCell _ ⟨g8, 1, none⟩ _ _ n78).trans T6.out.kc
      have KD7 : Hid ((w6.setCell ⟨g8, 1, none⟩ (.int .u16 (bits .xor .u16 e.inc 1))).heap[g8]? = some (.cells #[.int .u8 e.node, .int .u16 (bits .xor .u16 e.inc 1), .int .u32 e.seq, .slice V8 e.xs.length vc8, .slice D8 e.l.length dc8] 31 (0, 0))) := Go.Joins.block_setCell (i := 1) T6.out.kd (.int .u16 (bits .xor .u16 e.inc 1))
      have RE7 := Lib.hid (E1.out.next b7)
      have RC7 : Hid (EvR (w6.setCell ⟨g8, 1, none⟩ (.int .u16 (bits .xor .u16 e.inc 1))) (.agg #[.int .u8 e.node, .int .u16 e.inc, .int .u32 e.seq, .slice V7 e.xs.length vc7, .slice D7 e.l.length dc7]) e) := ⟨V7, _, vc7, D7, _, dc7, rfl, (T6.out.v7.off T6.out.kd (by decide) 1 _).sv, (T6.out.d7.off T6.out.kd (by decide) 1 _).sv⟩
      have RD7 : Hid (EvR (w6.setCell ⟨g8, 1, none⟩ (.int .u16 (bits .xor .u16 e.inc 1))) (.agg #[.int .u8 e.node, .int .u16 (bits .xor .u16 e.inc 1), .int .u32 e.seq, .slice V8 e.xs.length vc8, .slice D8 e.l.length dc8]) ⟨e.node, bits .xor .u16 e.inc 1, e.seq, e.xs, e.l⟩) := ⟨V8, _, vc8, D8, _, dc8, rfl, (T6.out.v8.off T6.out.kd (by decide) 1 _).sv, (T6.out.d8.off T6.out.kd (by decide) 1 _).sv⟩
      clear c0 c1 c2 c3 c4 c70 c71 c72 c73 c74 c80 c81 c82 c83 c84 f8 T6 E1 b6
      generalize w6.setCell ⟨g8, 1, none⟩ (.int .u16 (bits .xor .u16 e.inc 1)) = w7 at *
      refine (same_of RE7.out RD7.out HN.out).mono ?_
      rintro r w8 ⟨rfl, b8⟩
      have ke := (b8.block _ (Array.getElem?_eq_some_iff.1 KE7.out).1).trans KE7.out
      have kc := (b8.block _ (Array.getElem?_eq_some_iff.1 KC7.out).1).trans KC7.out
      have kd := (b8.block _ (Array.getElem?_eq_some_iff.1 KD7.out).1).trans KD7.out
      obtain ⟨c0, c1, c2, c3, c4⟩ := ev_cells ke
      obtain ⟨c70, c71, c72, c73, c74⟩ := ev_cells kc
      obtain ⟨c80, c81, c82, c83, c84⟩ := ev_cells kd
      have KE8 := Lib.hid ke
      have KC8 := Lib.hid kc
      have KD8 := Lib.hid kd
      clear ke kc kd
      go_wp2_with fail
      refine (same_of (RD7.out.next b8) (RE7.out.next b8) ((sameB_comm _ _).trans HN.out)).mono ?_
      rintro r w9 ⟨rfl, b9⟩
      clear c0 c1 c2 c3 c4 c70 c71 c72 c73 c74 c80 c81 c82 c83 c84
      obtain ⟨c0, c1, c2, c3, c4⟩ := ev_cells ((b9.block _ (Array.getElem?_eq_some_iff.1 KE8.out).1).trans KE8.out)
      obtain ⟨c70, c71, c72, c73, c74⟩ := ev_cells ((b9.block _ (Array.getElem?_eq_some_iff.1 KC8.out).1).trans KC8.out)
      go_wp2_with fail
      refine (same_of (RE7.out.next (thn b8 b9)) (RC7.out.next (thn b8 b9)) (sameB_me e)).mono ?_
      rintro r w10 ⟨rfl, b10⟩
      go_wp2_with fail
      refine (awake_any w10).mono ?_
      rintro r w11 ⟨rfl, b11⟩
      go_wp2
      go_ret
      exact ⟨rfl, thn bb (b7.trans ((thn (thn (thn b8 b9) b10) b11).mono b7.size))⟩
    · skip
      go_wp2_with fail
      have HN : Hid (sameB e ⟨bits .xor .u8 e.node 1, e.inc, e.seq, e.xs, e.l⟩ = false) := sameB_id (by intro h; exact xor1_u8 _ (h.1).symm)
      have b7 := b6.setCell (p := ⟨g8, 0, none⟩) T6.out.b8 (.int .u8 (bits .xor .u8 e.node 1))
      have KE7 : Hid ((w6.setCell ⟨g8, 0, none⟩ (.int .u8 (bits .xor .u8 e.node 1))).heap[G0]? = _) := (Below.heap_setCell _ ⟨g8, 0, none⟩ _ _ m8).trans T6.out.ke
      have KC7 : Hid ((w6.setCell ⟨g8, 0, none⟩ (.int .u8 (bits .xor .u8 e.node 1))).heap[g7]? = _) := (Below.heap_setCell _ ⟨g8, 0, none⟩ _ _ n78).trans T6.out.kc
      have KD7 : Hid ((w6.setCell ⟨g8, 0, none⟩ (.int .u8 (bits .xor .u8 e.node 1))).heap[g8]? = some (.cells #[.int .u8 (bits .xor .u8 e.node 1), .int .u16 e.inc, .int .u32 e.seq, .slice V8 e.xs.length vc8, .slice D8 e.l.length dc8] 31 (0, 0))) := Go.Joins.block_setCell (i := 0) T6.out.kd (.int .u8 (bits .xor .u8 e.node 1))
      have RE7 := Lib.hid (E1.out.next b7)
      have RC7 : Hid (EvR (w6.setCell ⟨g8, 0, none⟩ (.int .u8 (bits .xor .u8 e.node 1))) (.agg #[.int .u8 e.node, .int .u16 e.inc, .int .u32 e.seq, .slice V7 e.xs.length vc7, .slice D7 e.l.length dc7]) e) := ⟨V7, _, vc7, D7, _, dc7, rfl, (T6.out.v7.off T6.out.kd (by decide) 0 _).sv, (T6.out.d7.off T6.out.kd (by decide) 0 _).sv⟩
      have RD7 : Hid (EvR (w6.setCell ⟨g8, 0, none⟩ (.int .u8 (bits .xor .u8 e.node 1))) (.agg #[.int .u8 (bits .xor .u8 e.node 1), .int .u16 e.inc, .int .u32 e.seq, .slice V8 e.xs.length vc8, .slice D8 e.l.length dc8]) ⟨bits .xor .u8 e.node 1, e.inc, e.seq, e.xs, e.l⟩) := ⟨V8, _, vc8, D8, _, dc8, rfl, (T6.out.v8.off T6.out.kd (by decide) 0 _).sv, (T6.out.d8.off T6.out.kd (by decide) 0 _).sv⟩
      clear c0 c1 c2 c3 c4 c70 c71 c72 c73 c74 c80 c81 c82 c83 c84 f8 T6 E1 b6
      generalize w6.setCell ⟨g8, 0, none⟩ (.int .u8 (bits .xor .u8 e.node 1)) = w7 at *
      refine (same_of RE7.out RD7.out HN.out).mono ?_
      rintro r w8 ⟨rfl, b8⟩
      have ke := (b8.block _ (Array.getElem?_eq_some_iff.1 KE7.out).1).trans KE7.out
      have kc := (b8.block _ (Array.getElem?_eq_some_iff.1 KC7.out).1).trans KC7.out
      have kd := (b8.block _ (Array.getElem?_eq_some_iff.1 KD7.out).1).trans KD7.out
      obtain ⟨c0, c1, c2, c3, c4⟩ := ev_cells ke
      obtain ⟨c70, c71, c72, c73, c74⟩ := ev_cells kc
      obtain ⟨c80, c81, c82, c83, c84⟩ := ev_cells kd
      have KE8 := Lib.hid ke
      have KC8 := Lib.hid kc
      have KD8 := Lib.hid kd
      clear ke kc kd
      go_wp2_with fail
      refine (same_of (RD7.out.next b8) (RE7.out.next b8) ((sameB_comm _ _).trans HN.out)).mono ?_
      rintro r w9 ⟨rfl, b9⟩
      clear c0 c1 c2 c3 c4 c70 c71 c72 c73 c74 c80 c81 c82 c83 c84
      obtain ⟨c0, c1, c2, c3, c4⟩ := ev_cells ((b9.block _ (Array.getElem?_eq_some_iff.1 KE8.out).1).trans KE8.out)
      obtain ⟨c70, c71, c72, c73, c74⟩ := ev_cells ((b9.block _ (Array.getElem?_eq_some_iff.1 KC8.out).1).trans KC8.out)
      go_wp2_with fail
      refine (same_of (RE7.out.next (thn b8 b9)) (RC7.out.next (thn b8 b9)) (sameB_me e)).mono ?_
      rintro r w10 ⟨rfl, b10⟩
      go_wp2_with fail
      refine (awake_any w10).mono ?_
      rintro r w11 ⟨rfl, b11⟩
      go_wp2
      go_ret
      exact ⟨rfl, thn bb (b7.trans ((thn (thn (thn b8 b9) b10) b11).mono b7.size))⟩
  simp only [List.take_succ_cons, List.take_zero]
  refine ⟨?k0, ?k1, ?k2, ?k3, ?k4, ?k5, trivial⟩
  case k1 =>
    intro w5 hb
    refine over_val rfl (over_nil ?_)
    go_wp2_with fail
    refine (copy_any _ e w5 (E1.out.next hb) XA.out XD.out).mono ?_
    rintro r w6 ⟨v6, rfl, o6, b6⟩
    go_wp2
    exact post2_of (by rfl) (by rfl) b6 (by exact o6.mono hb.size) (by exact mkF_ev o6)
  case k3 =>
    intro w5 hb
    refine over_val rfl (over_nil ?_)
    go_wp2_with fail
    refine (copy_any _ e w5 (E1.out.next hb) XA.out XD.out).mono ?_
    rintro r w6 ⟨v6, rfl, o6, b6⟩
    go_wp2
    exact post2_of (by rfl) (by rfl) b6 (by exact o6.mono hb.size) (by exact mkF_ev o6)
  case k4 =>
    intro w5 hb
    refine over_nil ?_
    go_wp2
    exact post2_of (by rfl) (by rfl) (below_lit _ _) (by exact ⟨_, rfl, hb.size, heap_alloc_new _ _⟩) (by exact mkF_ptr rfl (by simp))
  case k5 =>
    intro w5 hb
    refine over_nil ?_
    go_wp2
    exact post2_of (by rfl) (by rfl) (below_lit _ _) (by exact ⟨_, rfl, hb.size, heap_alloc_new _ _⟩) (by exact mkF_ptr rfl (by simp))
  all_goals
    intro w5 hb
    refine over_nil ?_
    obtain ⟨c0, c1, c2, c3, c4⟩ := ev_cells ((hb.block G0 z1).trans K1.out)
    go_wp2
    exact post2_of (by rfl) (by rfl) (Below.refl _ _) (by rfl) (fun g hg => by simp [mkF] at hg)
end --walk
end Go.Proofs.Ytaiaaglggkhjpaa
