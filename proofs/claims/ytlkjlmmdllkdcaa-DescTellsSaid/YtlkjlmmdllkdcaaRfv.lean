/- Layer 9: five copies of a descriptor (sames), over operations and a frame that are letters. -/
import Derived.Test.YtlkjlmmdllkdcaaRn
import Derived.Test.YtlkjlmmdllkdcaaReg4
import Derived.Test.YtlkjlmmdllkdcaaReg6
namespace Go.Proofs.Ytlkjlmmdllkdcaa
open Go.RowKit
set_option linter.unusedVariables false
structure OpIs (o : Oper) (op : Op) (d : Option Tmp) : Prop where
  op : o.op = op
  dst : o.dst = d
  guard : o.guard = none
def ptrF (v : Value) (g : Nat) : Prop := v = .pointer (some ⟨g, 0, none⟩)
def mkP (ps : List Nat) : Fr := fun d v g => d ∈ ps ∧ ptrF v g
theorem mkP_ptr {ps : List Nat} {d : Tmp} {w w' : World} {h : Nat} (hh : w.heap.size = h) (hlt : h < w'.heap.size) : ∀ g, mkP ps d (.pointer (some ⟨h, 0, none⟩)) g → w.heap.size ≤ g ∧ g < w'.heap.size := by
  rintro g ⟨_, hg⟩
  injection hg with hg
  injection hg with hg
  injection hg with hg
  omega
theorem eval_put_ne {a : Act} {d t : Tmp} {u v : Value} (h : d ≠ t) (e : a.eval (.tmp t) = v) : (a.put (some d) u).eval (.tmp t) = v := by
  rw [Act.eval_put (fun d' hd hx => by injection hd with hd; injection hx with hx; exact h (hd.trans hx.symm))]; exact e
theorem eval_put_eq {a : Act} {d : Tmp} {v : Value} (h : d < a.tmps.size) : (a.put (some d) v).eval (.tmp d) = v := by
  simp [Act.put, Act.eval, h]
theorem put_size {a : Act} {d : Tmp} {v : Value} : (a.put (some d) v).tmps.size = a.tmps.size := by simp [Act.put]
theorem wanted_none {o : Oper} {f : Nat → Option Bool} (h : o.guard = none) : Region.wanted o f = true := by simp [Region.wanted, h]
theorem wpListS_want {P : Program} {ops : Array Oper} {S : World → Prop} {Q : Exit → Act → World → Prop} {o : Oper} {rest : List Oper} {a : Act} {w : World} (hw : Region.wanted o (yielded ops a.tmps) = true)
    (h : o.wp P a w (fun a' w' => S w' ∧ wpListS P ops S Q rest a' w') Q) : wpListS P ops S Q (o :: rest) a w := by
  unfold wpListS; rw [if_pos hw]; exact h
theorem wpListS_nil {P : Program} {ops : Array Oper} {S : World → Prop} {Q : Exit → Act → World → Prop} {a : Act} {w : World} (h : Q .normal a w) : wpListS P ops S Q [] a w := h
theorem over_none {T : Tmp → Ty} {ds : List Tmp} {a : Act} {w : World} {K : Act → Prop} (h : ds = []) (k : K a) : over T ds a w K := by subst h; exact k
theorem behind2_fill {n : Nat} {T : Tmp → Ty} {F : Fr} {w0 w' : World} {a a' : Act} {l : List Oper} {ds : List Tmp} (hB : Behind2 l.toArray n T F w0 a w' a') (hds : dstsOf (l.take n) = ds) : a' = fill (fun t => a'.tmps.getD t undef) ds a := by
  subst hds
  have := behind_fill hB.toBehind
  simpa using this
def tyNo (B : Nat) : Ty := .pred (fun v w => ∃ g, v = .pointer (some ⟨g, 0, none⟩) ∧ B ≤ g ∧ w.heap[g]? = some (.cells #[.int .u8 0, .int .u16 0, .int .u8 0, .slice none 0 0] 27 (0, 0))) (fun _ _ _ ⟨g, h, hB, hh⟩ hb => ⟨g, h, hB, (hb.block g (Array.getElem?_eq_some_iff.1 hh).1).trans hh⟩)
theorem st4_same {w : World} {g : Nat} {a0 b0 c0 d0 a b c d : Value} {t : TypeId} {fr : Nat × Nat} (h : w.heap[g]? = some (.cells #[a0, b0, c0, d0] t fr)) :
    ((((w.setCell ⟨g, 0, none⟩ a).setCell ⟨g, 1, none⟩ b).setCell ⟨g, 2, none⟩ c).setCell ⟨g, 3, none⟩ d).heap[g]? = some (.cells #[a, b, c, d] t fr) :=
  Go.Joins.block_setCell (i := 3) (Go.Joins.block_setCell (i := 2) (Go.Joins.block_setCell (i := 1) (Go.Joins.block_setCell (i := 0) h a) b) c) d
theorem st4_other {w : World} {g k : Nat} {a b c d : Value} (h : k ≠ g) : ((((w.setCell ⟨g, 0, none⟩ a).setCell ⟨g, 1, none⟩ b).setCell ⟨g, 2, none⟩ c).setCell ⟨g, 3, none⟩ d).heap[k]? = w.heap[k]? := by
  rw [Below.heap_setCell _ _ _ _ h, Below.heap_setCell _ _ _ _ h, Below.heap_setCell _ _ _ _ h, Below.heap_setCell _ _ _ _ h]
theorem st4_below {w : World} {B g : Nat} {a b c d : Value} (h : B ≤ g) : Below B w ((((w.setCell ⟨g, 0, none⟩ a).setCell ⟨g, 1, none⟩ b).setCell ⟨g, 2, none⟩ c).setCell ⟨g, 3, none⟩ d) :=
  ((((Below.refl B w).setCell (p := ⟨g, 0, none⟩) h a).setCell (p := ⟨g, 1, none⟩) h b).setCell (p := ⟨g, 2, none⟩) h c).setCell (p := ⟨g, 3, none⟩) h d
theorem load4_run {o : Oper} {a : Act} {w : World} {g : Nat} {d : Dsc} {hd : Hd} (x : Operand) (ho : o.op = .load 27 x) (hx : a.eval x = .pointer (some ⟨g, 0, none⟩)) (h : DBlk w g d hd) : (execOp a.eval o).run Try.prog w = .ok (.value (.agg #[.int .u8 d.1, .int .u16 d.2.1, .int .u8 d.2.2.1, .slice hd.1 hd.2.1 hd.2.2])) w := by
  obtain ⟨h0, h1, h2, h3⟩ := h.cells
  unfold execOp
  simp only [ho, hx]
  simp [go_sem, h0, h1, h2, h3]
theorem alloc4_run {o : Oper} {a : Act} {w : World} (ho : o.op = .alloc 27) : (execOp a.eval o).run Try.prog w = .ok (.value (.pointer (some ⟨w.heap.size, 0, none⟩))) (w.alloc (.cells #[.int .u8 0, .int .u16 0, .int .u8 0, .slice none 0 0] 27 (0, 0))) := by
  have key : (execOp (Act.eval ⟨#[], []⟩) { dst := none, op := .alloc 27, type := 0, pos := "", after := #[], guard := none }).run Try.prog w = .ok (.value (.pointer (some ⟨w.heap.size, 0, none⟩))) (w.alloc (.cells #[.int .u8 0, .int .u16 0, .int .u8 0, .slice none 0 0] 27 (0, 0))) := by
    kernel_rfl
  unfold execOp at key ⊢
  simp only [ho]
  exact key
theorem post2_alloc {ops : Array Oper} {T : Tmp → Ty} {ps : List Nat} {D : List Deferred} {o : Oper} {a : Act} {w : World} {d : Tmp} {B : Nat} (ho : OpIs o (.alloc 27) (some d)) (hD : a.defers = D) (hs : d < a.tmps.size) (hT : T d = tyNo B) (hB : B ≤ w.heap.size) :
    wpList Try.prog ops (Post2 T (mkP ps) D o w) [o] a w := by
  have hw : Region.wanted o (yielded ops a.tmps) = true := wanted_none ho.guard
  unfold wpList
  rw [if_pos hw]
  left
  unfold Oper.wp
  rw [alloc4_run ho.op]
  have hv : (a.put o.dst (.pointer (some ⟨w.heap.size, 0, none⟩))).tmps.getD d undef = .pointer (some ⟨w.heap.size, 0, none⟩) := by
    rw [ho.dst]
    have := eval_put_eq (a := a) (v := .pointer (some ⟨w.heap.size, 0, none⟩)) hs
    exact this
  refine post2_of ho.dst ?_ (below_lit _ _) ?_ ?_
  · rw [ho.dst]; exact hD
  · rw [hv, hT]
    exact ⟨_, rfl, hB, heap_alloc_new _ _⟩
  · rw [hv]
    exact mkP_ptr rfl (by simp)
theorem wp_store4 {o : Oper} {a : Act} {w : World} {K : Act → World → Prop} {Q : Exit → Act → World → Prop} {g : Nat} {d0 : Dsc} {h0 : Hd} {d : Dsc} {hd : Hd} (x y : Operand) (ho : o.op = .store 27 x y) (hdst : o.dst = none)
    (hx : a.eval x = .pointer (some ⟨g, 0, none⟩)) (hy : a.eval y = (.agg #[.int .u8 d.1, .int .u16 d.2.1, .int .u8 d.2.2.1, .slice hd.1 hd.2.1 hd.2.2])) (h : DBlk w g d0 h0)
    (hK : K a ((((w.setCell ⟨g, 0, none⟩ (.int .u8 d.1)).setCell ⟨g, 1, none⟩ (.int .u16 d.2.1)).setCell ⟨g, 2, none⟩ (.int .u8 d.2.2.1)).setCell ⟨g, 3, none⟩ (.slice hd.1 hd.2.1 hd.2.2))) : o.wp Try.prog a w K Q := by
  obtain ⟨dst, op, ty, pos, after, guard⟩ := o
  simp only at ho hdst
  subst ho hdst
  obtain ⟨c0, c1, c2, c3⟩ := h.cells
  have f := h.free
  have key : wpList Try.prog #[{ dst := none, op := .store 27 (.tmp 0) (.tmp 1), type := ty, pos := pos, after := #[], guard := none }]
      (fun e a' w' => e = .normal ∧ a'.defers = [] ∧ w' = ((((w.setCell ⟨g, 0, none⟩ (.int .u8 d.1)).setCell ⟨g, 1, none⟩ (.int .u16 d.2.1)).setCell ⟨g, 2, none⟩ (.int .u8 d.2.2.1)).setCell ⟨g, 3, none⟩ (.slice hd.1 hd.2.1 hd.2.2)))
      [{ dst := none, op := .store 27 (.tmp 0) (.tmp 1), type := ty, pos := pos, after := #[], guard := none }]
      ⟨#[.pointer (some ⟨g, 0, none⟩), (.agg #[.int .u8 d.1, .int .u16 d.2.1, .int .u8 d.2.2.1, .slice hd.1 hd.2.1 hd.2.2])], []⟩ w := by
    have f0 := f 0
    have f1 := f 1
    have f2 := f 2
    have f3 := f 3
    go_wp2
  unfold wpList at key
  have hw : Region.wanted { dst := none, op := Op.store 27 (.tmp 0) (.tmp 1), type := ty, pos := pos, after := #[], guard := none } (yielded #[{ dst := none, op := .store 27 (.tmp 0) (.tmp 1), type := ty, pos := pos, after := #[], guard := none }] (#[.pointer (some ⟨g, 0, none⟩), (.agg #[.int .u8 d.1, .int .u16 d.2.1, .int .u8 d.2.2.1, .slice hd.1 hd.2.1 hd.2.2])] : Array Value)) = true := wanted_none rfl
  rw [if_pos hw] at key
  rcases key with key | ⟨_, _, _, hq, _⟩
  · unfold Oper.wp at key ⊢
    have he : execOp a.eval { dst := none, op := Op.store 27 x y, type := ty, pos := pos, after := after, guard := guard } = execOp (Act.eval ⟨#[.pointer (some ⟨g, 0, none⟩), (.agg #[.int .u8 d.1, .int .u16 d.2.1, .int .u8 d.2.2.1, .slice hd.1 hd.2.1 hd.2.2])], []⟩) { dst := none, op := Op.store 27 (.tmp 0) (.tmp 1), type := ty, pos := pos, after := #[], guard := none } := by
      unfold execOp
      simp only [hx, hy]
      rfl
    rw [he]
    generalize (execOp (Act.eval _) _).run Try.prog w = r at *
    cases r with
    | ok n w' =>
      cases n <;> simp only [Oper.upon, wpList] at key ⊢
      case value v => obtain ⟨_, _, rfl⟩ := key; exact hK
      case skip => obtain ⟨_, _, rfl⟩ := key; exact hK
      case defer d => obtain ⟨_, h', _⟩ := key; simp [Act.put] at h'
      case enter f' args =>
        refine Calls.mono key fun e w'' he => ?_
        cases e with
        | returned v => obtain ⟨_, _, rfl⟩ := he; exact hK
        | panicked c => exact absurd he.1 (by simp)
        | outgrown => obtain ⟨_, _, hq, _⟩ := he; cases hq
      case row r' args => exact Rows.mono key fun v w'' hv => by obtain ⟨_, _, rfl⟩ := hv; exact hK
    | halt x' w' =>
      cases x' <;> simp only [Oper.upon] at key ⊢
      exact absurd key.1 (by simp)
  · cases hq
set_option maxRecDepth 100000 in
theorem five_gen {Q : Exit → Act → World → Prop} {id : Nat} {a : Act} {w : World} {g1 : Nat} {d : Dsc} {hd : Hd} {o0 o1 o2 o3 o4 o5 o6 o7 o8 o9 o10 o11 o12 o13 o14 : Oper}
    (i0 : OpIs o0 (.load 27 (.tmp 1)) (some 8))
    (i1 : OpIs o1 (.load 27 (.tmp 1)) (some 9))
    (i2 : OpIs o2 (.load 27 (.tmp 1)) (some 10))
    (i3 : OpIs o3 (.load 27 (.tmp 1)) (some 11))
    (i4 : OpIs o4 (.load 27 (.tmp 1)) (some 12))
    (i5 : OpIs o5 (.alloc 27) (some 3))
    (i6 : OpIs o6 (.alloc 27) (some 4))
    (i7 : OpIs o7 (.alloc 27) (some 5))
    (i8 : OpIs o8 (.alloc 27) (some 6))
    (i9 : OpIs o9 (.alloc 27) (some 7))
    (i10 : OpIs o10 (.store 27 (.tmp 3) (.tmp 8)) none)
    (i11 : OpIs o11 (.store 27 (.tmp 4) (.tmp 9)) none)
    (i12 : OpIs o12 (.store 27 (.tmp 5) (.tmp 10)) none)
    (i13 : OpIs o13 (.store 27 (.tmp 6) (.tmp 11)) none)
    (i14 : OpIs o14 (.store 27 (.tmp 7) (.tmp 12)) none)
    (hm : Try.prog.follows .mixedOrders = true) (hB3 : reg3OK [o0, o1, o2, o3, o4, o5, o6, o7, o8, o9, o10, o11, o12, o13, o14].toArray [[], [], [], [], [], [], [], [], [], []] 5 10 = true) (hH : headOK [o0, o1, o2, o3, o4, o5, o6, o7, o8, o9, o10, o11, o12, o13, o14].toArray 5 = true) (hC : closedOK [o0, o1, o2, o3, o4, o5, o6, o7, o8, o9, o10, o11, o12, o13, o14].toArray 5 = true)
    (hn : 12 < a.tmps.size) (hx : a.eval (.tmp 1) = .pointer (some ⟨g1, 0, none⟩)) (hg : DBlk w g1 d hd)
    (h : ∀ (g3 g4 g5 g6 g7 : Nat) (w' : World), (w.heap.size ≤ g3 ∧ w.heap.size ≤ g4 ∧ w.heap.size ≤ g5 ∧ w.heap.size ≤ g6 ∧ w.heap.size ≤ g7) → (g3 ≠ g4 ∧ g3 ≠ g5 ∧ g3 ≠ g6 ∧ g3 ≠ g7 ∧ g4 ≠ g5 ∧ g4 ≠ g6 ∧ g4 ≠ g7 ∧ g5 ≠ g6 ∧ g5 ≠ g7 ∧ g6 ≠ g7) → Below w.heap.size w w' → DBlk w' g3 d hd → DBlk w' g4 d hd → DBlk w' g5 d hd → DBlk w' g6 d hd → DBlk w' g7 d hd →
      Q .normal (putAll [8, 9, 10, 11, 12, 3, 4, 5, 6, 7] [(.agg #[.int .u8 d.1, .int .u16 d.2.1, .int .u8 d.2.2.1, .slice hd.1 hd.2.1 hd.2.2]), (.agg #[.int .u8 d.1, .int .u16 d.2.1, .int .u8 d.2.2.1, .slice hd.1 hd.2.1 hd.2.2]), (.agg #[.int .u8 d.1, .int .u16 d.2.1, .int .u8 d.2.2.1, .slice hd.1 hd.2.1 hd.2.2]), (.agg #[.int .u8 d.1, .int .u16 d.2.1, .int .u8 d.2.2.1, .slice hd.1 hd.2.1 hd.2.2]), (.agg #[.int .u8 d.1, .int .u16 d.2.1, .int .u8 d.2.2.1, .slice hd.1 hd.2.1 hd.2.2]), (.pointer (some ⟨g3, 0, none⟩)), (.pointer (some ⟨g4, 0, none⟩)), (.pointer (some ⟨g5, 0, none⟩)), (.pointer (some ⟨g6, 0, none⟩)), (.pointer (some ⟨g7, 0, none⟩))] (putAll [8, 9, 10, 11, 12] [(.agg #[.int .u8 d.1, .int .u16 d.2.1, .int .u8 d.2.2.1, .slice hd.1 hd.2.1 hd.2.2]), (.agg #[.int .u8 d.1, .int .u16 d.2.1, .int .u8 d.2.2.1, .slice hd.1 hd.2.1 hd.2.2]), (.agg #[.int .u8 d.1, .int .u16 d.2.1, .int .u8 d.2.2.1, .slice hd.1 hd.2.1 hd.2.2]), (.agg #[.int .u8 d.1, .int .u16 d.2.1, .int .u8 d.2.2.1, .slice hd.1 hd.2.1 hd.2.2]), (.agg #[.int .u8 d.1, .int .u16 d.2.1, .int .u8 d.2.2.1, .slice hd.1 hd.2.1 hd.2.2])] a)) w') :
    (Code.region id [o0, o1, o2, o3, o4, o5, o6, o7, o8, o9, o10, o11, o12, o13, o14].toArray true).wp Try.prog Q a w := by
  have z1 : g1 < w.heap.size := hg.lt
  have t5 : [o0, o1, o2, o3, o4, o5, o6, o7, o8, o9, o10, o11, o12, o13, o14].take 5 = [o0, o1, o2, o3, o4] := rfl
  have ds5 : dstsOf [o0, o1, o2, o3, o4] = [8, 9, 10, 11, 12] := by simp [dstsOf, i0.dst, i1.dst, i2.dst, i3.dst, i4.dst]
  have ds10 : dstsOf ([o0, o1, o2, o3, o4, o5, o6, o7, o8, o9, o10, o11, o12, o13, o14].take 10) = [8, 9, 10, 11, 12, 3, 4, 5, 6, 7] := by
    simp [dstsOf, i0.dst, i1.dst, i2.dst, i3.dst, i4.dst, i5.dst, i6.dst, i7.dst, i8.dst, i9.dst]
  refine wp_region_typed3 5 10 [(8, .val (.agg #[.int .u8 d.1, .int .u16 d.2.1, .int .u8 d.2.2.1, .slice hd.1 hd.2.1 hd.2.2])), (9, .val (.agg #[.int .u8 d.1, .int .u16 d.2.1, .int .u8 d.2.2.1, .slice hd.1 hd.2.1 hd.2.2])), (10, .val (.agg #[.int .u8 d.1, .int .u16 d.2.1, .int .u8 d.2.2.1, .slice hd.1 hd.2.1 hd.2.2])), (11, .val (.agg #[.int .u8 d.1, .int .u16 d.2.1, .int .u8 d.2.2.1, .slice hd.1 hd.2.1 hd.2.2])), (12, .val (.agg #[.int .u8 d.1, .int .u16 d.2.1, .int .u8 d.2.2.1, .slice hd.1 hd.2.1 hd.2.2])), (3, tyNo w.heap.size), (4, tyNo w.heap.size), (5, tyNo w.heap.size), (6, tyNo w.heap.size), (7, tyNo w.heap.size)]
    (mkP [3, 4, 5, 6, 7]) [[], [], [], [], [], [], [], [], [], []] (fun w' => DBlk w' g1 d hd) hm hB3 hH hC (by decide) (fun w' hb => hg.next hb) ?_
  rw [t5]
  refine ⟨(.agg #[.int .u8 d.1, .int .u16 d.2.1, .int .u8 d.2.2.1, .slice hd.1 hd.2.1 hd.2.2]), .inl ⟨wanted_none i0.guard, fun w' hS => load4_run (.tmp 1) i0.op hx hS⟩, ?_⟩
  rw [i0.dst]
  refine ⟨(.agg #[.int .u8 d.1, .int .u16 d.2.1, .int .u8 d.2.2.1, .slice hd.1 hd.2.1 hd.2.2]), .inl ⟨wanted_none i1.guard, fun w' hS => load4_run (.tmp 1) i1.op (eval_put_ne (by decide) hx) hS⟩, ?_⟩
  rw [i1.dst]
  refine ⟨(.agg #[.int .u8 d.1, .int .u16 d.2.1, .int .u8 d.2.2.1, .slice hd.1 hd.2.1 hd.2.2]), .inl ⟨wanted_none i2.guard, fun w' hS => load4_run (.tmp 1) i2.op (eval_put_ne (by decide) (eval_put_ne (by decide) hx)) hS⟩, ?_⟩
  rw [i2.dst]
  refine ⟨(.agg #[.int .u8 d.1, .int .u16 d.2.1, .int .u8 d.2.2.1, .slice hd.1 hd.2.1 hd.2.2]), .inl ⟨wanted_none i3.guard, fun w' hS => load4_run (.tmp 1) i3.op (eval_put_ne (by decide) (eval_put_ne (by decide) (eval_put_ne (by decide) hx))) hS⟩, ?_⟩
  rw [i3.dst]
  refine ⟨(.agg #[.int .u8 d.1, .int .u16 d.2.1, .int .u8 d.2.2.1, .slice hd.1 hd.2.1 hd.2.2]), .inl ⟨wanted_none i4.guard, fun w' hS => load4_run (.tmp 1) i4.op (eval_put_ne (by decide) (eval_put_ne (by decide) (eval_put_ne (by decide) (eval_put_ne (by decide) hx)))) hS⟩, ?_⟩
  rw [i4.dst]
  have hf : putAll [8, 9, 10, 11, 12] [(.agg #[.int .u8 d.1, .int .u16 d.2.1, .int .u8 d.2.2.1, .slice hd.1 hd.2.1 hd.2.2]), (.agg #[.int .u8 d.1, .int .u16 d.2.1, .int .u8 d.2.2.1, .slice hd.1 hd.2.1 hd.2.2]), (.agg #[.int .u8 d.1, .int .u16 d.2.1, .int .u8 d.2.2.1, .slice hd.1 hd.2.1 hd.2.2]), (.agg #[.int .u8 d.1, .int .u16 d.2.1, .int .u8 d.2.2.1, .slice hd.1 hd.2.1 hd.2.2]), (.agg #[.int .u8 d.1, .int .u16 d.2.1, .int .u8 d.2.2.1, .slice hd.1 hd.2.1 hd.2.2])] a = (((((a.put (some 8) (.agg #[.int .u8 d.1, .int .u16 d.2.1, .int .u8 d.2.2.1, .slice hd.1 hd.2.1 hd.2.2])).put (some 9) (.agg #[.int .u8 d.1, .int .u16 d.2.1, .int .u8 d.2.2.1, .slice hd.1 hd.2.1 hd.2.2])).put (some 10) (.agg #[.int .u8 d.1, .int .u16 d.2.1, .int .u8 d.2.2.1, .slice hd.1 hd.2.1 hd.2.2])).put (some 11) (.agg #[.int .u8 d.1, .int .u16 d.2.1, .int .u8 d.2.2.1, .slice hd.1 hd.2.1 hd.2.2])).put (some 12) (.agg #[.int .u8 d.1, .int .u16 d.2.1, .int .u8 d.2.2.1, .slice hd.1 hd.2.1 hd.2.2])) := rfl
  rw [← hf]
  have h8 : 8 < a.tmps.size := Nat.lt_of_le_of_lt (by decide) hn
  have h9 : 9 < a.tmps.size := Nat.lt_of_le_of_lt (by decide) hn
  have h10 : 10 < a.tmps.size := Nat.lt_of_le_of_lt (by decide) hn
  have h11 : 11 < a.tmps.size := Nat.lt_of_le_of_lt (by decide) hn
  have h12 : 12 < a.tmps.size := Nat.lt_of_le_of_lt (by decide) hn
  have v8 : (putAll [8, 9, 10, 11, 12] [(.agg #[.int .u8 d.1, .int .u16 d.2.1, .int .u8 d.2.2.1, .slice hd.1 hd.2.1 hd.2.2]), (.agg #[.int .u8 d.1, .int .u16 d.2.1, .int .u8 d.2.2.1, .slice hd.1 hd.2.1 hd.2.2]), (.agg #[.int .u8 d.1, .int .u16 d.2.1, .int .u8 d.2.2.1, .slice hd.1 hd.2.1 hd.2.2]), (.agg #[.int .u8 d.1, .int .u16 d.2.1, .int .u8 d.2.2.1, .slice hd.1 hd.2.1 hd.2.2]), (.agg #[.int .u8 d.1, .int .u16 d.2.1, .int .u8 d.2.2.1, .slice hd.1 hd.2.1 hd.2.2])] a).eval (.tmp 8) = (.agg #[.int .u8 d.1, .int .u16 d.2.1, .int .u8 d.2.2.1, .slice hd.1 hd.2.1 hd.2.2]) := by rw [hf]; exact (eval_put_ne (by decide) (eval_put_ne (by decide) (eval_put_ne (by decide) (eval_put_ne (by decide) (eval_put_eq (by first | exact h8 | (simp only [put_size]; exact h8)))))))
  have v9 : (putAll [8, 9, 10, 11, 12] [(.agg #[.int .u8 d.1, .int .u16 d.2.1, .int .u8 d.2.2.1, .slice hd.1 hd.2.1 hd.2.2]), (.agg #[.int .u8 d.1, .int .u16 d.2.1, .int .u8 d.2.2.1, .slice hd.1 hd.2.1 hd.2.2]), (.agg #[.int .u8 d.1, .int .u16 d.2.1, .int .u8 d.2.2.1, .slice hd.1 hd.2.1 hd.2.2]), (.agg #[.int .u8 d.1, .int .u16 d.2.1, .int .u8 d.2.2.1, .slice hd.1 hd.2.1 hd.2.2]), (.agg #[.int .u8 d.1, .int .u16 d.2.1, .int .u8 d.2.2.1, .slice hd.1 hd.2.1 hd.2.2])] a).eval (.tmp 9) = (.agg #[.int .u8 d.1, .int .u16 d.2.1, .int .u8 d.2.2.1, .slice hd.1 hd.2.1 hd.2.2]) := by rw [hf]; exact (eval_put_ne (by decide) (eval_put_ne (by decide) (eval_put_ne (by decide) (eval_put_eq (by first | exact h9 | (simp only [put_size]; exact h9))))))
  have v10 : (putAll [8, 9, 10, 11, 12] [(.agg #[.int .u8 d.1, .int .u16 d.2.1, .int .u8 d.2.2.1, .slice hd.1 hd.2.1 hd.2.2]), (.agg #[.int .u8 d.1, .int .u16 d.2.1, .int .u8 d.2.2.1, .slice hd.1 hd.2.1 hd.2.2]), (.agg #[.int .u8 d.1, .int .u16 d.2.1, .int .u8 d.2.2.1, .slice hd.1 hd.2.1 hd.2.2]), (.agg #[.int .u8 d.1, .int .u16 d.2.1, .int .u8 d.2.2.1, .slice hd.1 hd.2.1 hd.2.2]), (.agg #[.int .u8 d.1, .int .u16 d.2.1, .int .u8 d.2.2.1, .slice hd.1 hd.2.1 hd.2.2])] a).eval (.tmp 10) = (.agg #[.int .u8 d.1, .int .u16 d.2.1, .int .u8 d.2.2.1, .slice hd.1 hd.2.1 hd.2.2]) := by rw [hf]; exact (eval_put_ne (by decide) (eval_put_ne (by decide) (eval_put_eq (by first | exact h10 | (simp only [put_size]; exact h10)))))
  have v11 : (putAll [8, 9, 10, 11, 12] [(.agg #[.int .u8 d.1, .int .u16 d.2.1, .int .u8 d.2.2.1, .slice hd.1 hd.2.1 hd.2.2]), (.agg #[.int .u8 d.1, .int .u16 d.2.1, .int .u8 d.2.2.1, .slice hd.1 hd.2.1 hd.2.2]), (.agg #[.int .u8 d.1, .int .u16 d.2.1, .int .u8 d.2.2.1, .slice hd.1 hd.2.1 hd.2.2]), (.agg #[.int .u8 d.1, .int .u16 d.2.1, .int .u8 d.2.2.1, .slice hd.1 hd.2.1 hd.2.2]), (.agg #[.int .u8 d.1, .int .u16 d.2.1, .int .u8 d.2.2.1, .slice hd.1 hd.2.1 hd.2.2])] a).eval (.tmp 11) = (.agg #[.int .u8 d.1, .int .u16 d.2.1, .int .u8 d.2.2.1, .slice hd.1 hd.2.1 hd.2.2]) := by rw [hf]; exact (eval_put_ne (by decide) (eval_put_eq (by first | exact h11 | (simp only [put_size]; exact h11))))
  have v12 : (putAll [8, 9, 10, 11, 12] [(.agg #[.int .u8 d.1, .int .u16 d.2.1, .int .u8 d.2.2.1, .slice hd.1 hd.2.1 hd.2.2]), (.agg #[.int .u8 d.1, .int .u16 d.2.1, .int .u8 d.2.2.1, .slice hd.1 hd.2.1 hd.2.2]), (.agg #[.int .u8 d.1, .int .u16 d.2.1, .int .u8 d.2.2.1, .slice hd.1 hd.2.1 hd.2.2]), (.agg #[.int .u8 d.1, .int .u16 d.2.1, .int .u8 d.2.2.1, .slice hd.1 hd.2.1 hd.2.2]), (.agg #[.int .u8 d.1, .int .u16 d.2.1, .int .u8 d.2.2.1, .slice hd.1 hd.2.1 hd.2.2])] a).eval (.tmp 12) = (.agg #[.int .u8 d.1, .int .u16 d.2.1, .int .u8 d.2.2.1, .slice hd.1 hd.2.1 hd.2.2]) := by rw [hf]; exact (eval_put_eq (by first | exact h12 | (simp only [put_size]; exact h12)))
  have hn1 : (putAll [8, 9, 10, 11, 12] [(.agg #[.int .u8 d.1, .int .u16 d.2.1, .int .u8 d.2.2.1, .slice hd.1 hd.2.1 hd.2.2]), (.agg #[.int .u8 d.1, .int .u16 d.2.1, .int .u8 d.2.2.1, .slice hd.1 hd.2.1 hd.2.2]), (.agg #[.int .u8 d.1, .int .u16 d.2.1, .int .u8 d.2.2.1, .slice hd.1 hd.2.1 hd.2.2]), (.agg #[.int .u8 d.1, .int .u16 d.2.1, .int .u8 d.2.2.1, .slice hd.1 hd.2.1 hd.2.2]), (.agg #[.int .u8 d.1, .int .u16 d.2.1, .int .u8 d.2.2.1, .slice hd.1 hd.2.1 hd.2.2])] a).tmps.size = a.tmps.size := by rw [hf]; simp only [put_size]
  clear hf hx
  generalize putAll [8, 9, 10, 11, 12] [(.agg #[.int .u8 d.1, .int .u16 d.2.1, .int .u8 d.2.2.1, .slice hd.1 hd.2.1 hd.2.2]), (.agg #[.int .u8 d.1, .int .u16 d.2.1, .int .u8 d.2.2.1, .slice hd.1 hd.2.1 hd.2.2]), (.agg #[.int .u8 d.1, .int .u16 d.2.1, .int .u8 d.2.2.1, .slice hd.1 hd.2.1 hd.2.2]), (.agg #[.int .u8 d.1, .int .u16 d.2.1, .int .u8 d.2.2.1, .slice hd.1 hd.2.1 hd.2.2]), (.agg #[.int .u8 d.1, .int .u16 d.2.1, .int .u8 d.2.2.1, .slice hd.1 hd.2.1 hd.2.2])] a = a1 at *
  rw [ds5]
  refine ⟨?_, ?_, ?_⟩
  · intro d' hd'
    simp only [List.mem_cons, List.not_mem_nil, or_false] at hd'
    rcases hd' with rfl | rfl | rfl | rfl | rfl
    · exact ⟨fun w' => v8, fun g hg => by simp [mkP] at hg⟩
    · exact ⟨fun w' => v9, fun g hg => by simp [mkP] at hg⟩
    · exact ⟨fun w' => v10, fun g hg => by simp [mkP] at hg⟩
    · exact ⟨fun w' => v11, fun g hg => by simp [mkP] at hg⟩
    · exact ⟨fun w' => v12, fun g hg => by simp [mkP] at hg⟩
  · intro i o hi hi' ho w5 hb
    obtain rfl | rfl | rfl | rfl | rfl : i = 5 ∨ i = 6 ∨ i = 7 ∨ i = 8 ∨ i = 9 := by omega
    · obtain rfl : o5 = o := by simpa using ho
      exact over_none rfl (post2_alloc i5 rfl (by rw [hn1]; exact Nat.lt_of_le_of_lt (by decide) hn) rfl hb.size)
    · obtain rfl : o6 = o := by simpa using ho
      exact over_none rfl (post2_alloc i6 rfl (by rw [hn1]; exact Nat.lt_of_le_of_lt (by decide) hn) rfl hb.size)
    · obtain rfl : o7 = o := by simpa using ho
      exact over_none rfl (post2_alloc i7 rfl (by rw [hn1]; exact Nat.lt_of_le_of_lt (by decide) hn) rfl hb.size)
    · obtain rfl : o8 = o := by simpa using ho
      exact over_none rfl (post2_alloc i8 rfl (by rw [hn1]; exact Nat.lt_of_le_of_lt (by decide) hn) rfl hb.size)
    · obtain rfl : o9 = o := by simpa using ho
      exact over_none rfl (post2_alloc i9 rfl (by rw [hn1]; exact Nat.lt_of_le_of_lt (by decide) hn) rfl hb.size)
  · intro w14 af hb hB
    have mem : ∀ d', d' ∈ [8, 9, 10, 11, 12, 3, 4, 5, 6, 7] → d' ∈ dstsOf ([o0, o1, o2, o3, o4, o5, o6, o7, o8, o9, o10, o11, o12, o13, o14].toArray.toList.take 10) := fun d' hd' => by
      show d' ∈ dstsOf ([o0, o1, o2, o3, o4, o5, o6, o7, o8, o9, o10, o11, o12, o13, o14].take 10)
      rw [ds10]; exact hd'
    obtain ⟨g3, p3, hg3, k3⟩ : ∃ g, af.tmps.getD 3 undef = .pointer (some ⟨g, 0, none⟩) ∧ w.heap.size ≤ g ∧ w14.heap[g]? = some (.cells #[.int .u8 0, .int .u16 0, .int .u8 0, .slice none 0 0] 27 (0, 0)) := hB.new 3 (mem 3 (by decide))
    obtain ⟨g4, p4, hg4, k4⟩ : ∃ g, af.tmps.getD 4 undef = .pointer (some ⟨g, 0, none⟩) ∧ w.heap.size ≤ g ∧ w14.heap[g]? = some (.cells #[.int .u8 0, .int .u16 0, .int .u8 0, .slice none 0 0] 27 (0, 0)) := hB.new 4 (mem 4 (by decide))
    obtain ⟨g5, p5, hg5, k5⟩ : ∃ g, af.tmps.getD 5 undef = .pointer (some ⟨g, 0, none⟩) ∧ w.heap.size ≤ g ∧ w14.heap[g]? = some (.cells #[.int .u8 0, .int .u16 0, .int .u8 0, .slice none 0 0] 27 (0, 0)) := hB.new 5 (mem 5 (by decide))
    obtain ⟨g6, p6, hg6, k6⟩ : ∃ g, af.tmps.getD 6 undef = .pointer (some ⟨g, 0, none⟩) ∧ w.heap.size ≤ g ∧ w14.heap[g]? = some (.cells #[.int .u8 0, .int .u16 0, .int .u8 0, .slice none 0 0] 27 (0, 0)) := hB.new 6 (mem 6 (by decide))
    obtain ⟨g7, p7, hg7, k7⟩ : ∃ g, af.tmps.getD 7 undef = .pointer (some ⟨g, 0, none⟩) ∧ w.heap.size ≤ g ∧ w14.heap[g]? = some (.cells #[.int .u8 0, .int .u16 0, .int .u8 0, .slice none 0 0] 27 (0, 0)) := hB.new 7 (mem 7 (by decide))
    have e8 : af.tmps.getD 8 undef = (.agg #[.int .u8 d.1, .int .u16 d.2.1, .int .u8 d.2.2.1, .slice hd.1 hd.2.1 hd.2.2]) := hB.new 8 (mem 8 (by decide))
    have e9 : af.tmps.getD 9 undef = (.agg #[.int .u8 d.1, .int .u16 d.2.1, .int .u8 d.2.2.1, .slice hd.1 hd.2.1 hd.2.2]) := hB.new 9 (mem 9 (by decide))
    have e10 : af.tmps.getD 10 undef = (.agg #[.int .u8 d.1, .int .u16 d.2.1, .int .u8 d.2.2.1, .slice hd.1 hd.2.1 hd.2.2]) := hB.new 10 (mem 10 (by decide))
    have e11 : af.tmps.getD 11 undef = (.agg #[.int .u8 d.1, .int .u16 d.2.1, .int .u8 d.2.2.1, .slice hd.1 hd.2.1 hd.2.2]) := hB.new 11 (mem 11 (by decide))
    have e12 : af.tmps.getD 12 undef = (.agg #[.int .u8 d.1, .int .u16 d.2.1, .int .u8 d.2.2.1, .slice hd.1 hd.2.1 hd.2.2]) := hB.new 12 (mem 12 (by decide))
    have n34 : g3 ≠ g4 := by rintro rfl; exact hB.apart 3 (mem 3 (by decide)) 4 (mem 4 (by decide)) (by decide) g3 ⟨by decide, p3⟩ ⟨by decide, p4⟩
    have n35 : g3 ≠ g5 := by rintro rfl; exact hB.apart 3 (mem 3 (by decide)) 5 (mem 5 (by decide)) (by decide) g3 ⟨by decide, p3⟩ ⟨by decide, p5⟩
    have n36 : g3 ≠ g6 := by rintro rfl; exact hB.apart 3 (mem 3 (by decide)) 6 (mem 6 (by decide)) (by decide) g3 ⟨by decide, p3⟩ ⟨by decide, p6⟩
    have n37 : g3 ≠ g7 := by rintro rfl; exact hB.apart 3 (mem 3 (by decide)) 7 (mem 7 (by decide)) (by decide) g3 ⟨by decide, p3⟩ ⟨by decide, p7⟩
    have n45 : g4 ≠ g5 := by rintro rfl; exact hB.apart 4 (mem 4 (by decide)) 5 (mem 5 (by decide)) (by decide) g4 ⟨by decide, p4⟩ ⟨by decide, p5⟩
    have n46 : g4 ≠ g6 := by rintro rfl; exact hB.apart 4 (mem 4 (by decide)) 6 (mem 6 (by decide)) (by decide) g4 ⟨by decide, p4⟩ ⟨by decide, p6⟩
    have n47 : g4 ≠ g7 := by rintro rfl; exact hB.apart 4 (mem 4 (by decide)) 7 (mem 7 (by decide)) (by decide) g4 ⟨by decide, p4⟩ ⟨by decide, p7⟩
    have n56 : g5 ≠ g6 := by rintro rfl; exact hB.apart 5 (mem 5 (by decide)) 6 (mem 6 (by decide)) (by decide) g5 ⟨by decide, p5⟩ ⟨by decide, p6⟩
    have n57 : g5 ≠ g7 := by rintro rfl; exact hB.apart 5 (mem 5 (by decide)) 7 (mem 7 (by decide)) (by decide) g5 ⟨by decide, p5⟩ ⟨by decide, p7⟩
    have n67 : g6 ≠ g7 := by rintro rfl; exact hB.apart 6 (mem 6 (by decide)) 7 (mem 7 (by decide)) (by decide) g6 ⟨by decide, p6⟩ ⟨by decide, p7⟩
    have ef := behind2_fill (ds := [8, 9, 10, 11, 12, 3, 4, 5, 6, 7]) hB ds10
    simp only [fill, e8, e9, e10, e11, e12, p3, p4, p5, p6, p7] at ef
    have s0 : DBlk w14 g1 d hd := hg.next hb
    have l3 := (Array.getElem?_eq_some_iff.1 k3).1
    have n13 : g1 ≠ g3 := by omega
    have l4 := (Array.getElem?_eq_some_iff.1 k4).1
    have n14 : g1 ≠ g4 := by omega
    have l5 := (Array.getElem?_eq_some_iff.1 k5).1
    have n15 : g1 ≠ g5 := by omega
    have l6 := (Array.getElem?_eq_some_iff.1 k6).1
    have n16 : g1 ≠ g6 := by omega
    have l7 := (Array.getElem?_eq_some_iff.1 k7).1
    have n17 : g1 ≠ g7 := by omega
    have hbb : Below w.heap.size w14 (((((((((((((((((((((w14.setCell ⟨g3, 0, none⟩ (.int .u8 d.1)).setCell ⟨g3, 1, none⟩ (.int .u16 d.2.1)).setCell ⟨g3, 2, none⟩ (.int .u8 d.2.2.1)).setCell ⟨g3, 3, none⟩ (.slice hd.1 hd.2.1 hd.2.2)).setCell ⟨g4, 0, none⟩ (.int .u8 d.1)).setCell ⟨g4, 1, none⟩ (.int .u16 d.2.1)).setCell ⟨g4, 2, none⟩ (.int .u8 d.2.2.1)).setCell ⟨g4, 3, none⟩ (.slice hd.1 hd.2.1 hd.2.2)).setCell ⟨g5, 0, none⟩ (.int .u8 d.1)).setCell ⟨g5, 1, none⟩ (.int .u16 d.2.1)).setCell ⟨g5, 2, none⟩ (.int .u8 d.2.2.1)).setCell ⟨g5, 3, none⟩ (.slice hd.1 hd.2.1 hd.2.2)).setCell ⟨g6, 0, none⟩ (.int .u8 d.1)).setCell ⟨g6, 1, none⟩ (.int .u16 d.2.1)).setCell ⟨g6, 2, none⟩ (.int .u8 d.2.2.1)).setCell ⟨g6, 3, none⟩ (.slice hd.1 hd.2.1 hd.2.2)).setCell ⟨g7, 0, none⟩ (.int .u8 d.1)).setCell ⟨g7, 1, none⟩ (.int .u16 d.2.1)).setCell ⟨g7, 2, none⟩ (.int .u8 d.2.2.1)).setCell ⟨g7, 3, none⟩ (.slice hd.1 hd.2.1 hd.2.2))) := ((((st4_below hg3).trans (st4_below hg4)).trans (st4_below hg5)).trans (st4_below hg6)).trans (st4_below hg7)
    show wpListS _ _ _ _ [o10, o11, o12, o13, o14] af w14
    refine wpListS_want (wanted_none i10.guard) (wp_store4 (g := g3) (d0 := (0, 0, 0, [])) (h0 := (none, 0, 0)) (d := d) (hd := hd) (.tmp 3) (.tmp 8) i10.op i10.dst p3 e8 (show DBlk _ g3 (0, 0, 0, []) (none, 0, 0) from k3) ⟨show DBlk _ g1 d hd from ((st4_other n13).trans s0), ?_⟩)
    refine wpListS_want (wanted_none i11.guard) (wp_store4 (g := g4) (d0 := (0, 0, 0, [])) (h0 := (none, 0, 0)) (d := d) (hd := hd) (.tmp 4) (.tmp 9) i11.op i11.dst p4 e9 (show DBlk _ g4 (0, 0, 0, []) (none, 0, 0) from ((st4_other n34.symm).trans k4)) ⟨show DBlk _ g1 d hd from ((st4_other n14).trans ((st4_other n13).trans s0)), ?_⟩)
    refine wpListS_want (wanted_none i12.guard) (wp_store4 (g := g5) (d0 := (0, 0, 0, [])) (h0 := (none, 0, 0)) (d := d) (hd := hd) (.tmp 5) (.tmp 10) i12.op i12.dst p5 e10 (show DBlk _ g5 (0, 0, 0, []) (none, 0, 0) from ((st4_other n45.symm).trans ((st4_other n35.symm).trans k5))) ⟨show DBlk _ g1 d hd from ((st4_other n15).trans ((st4_other n14).trans ((st4_other n13).trans s0))), ?_⟩)
    refine wpListS_want (wanted_none i13.guard) (wp_store4 (g := g6) (d0 := (0, 0, 0, [])) (h0 := (none, 0, 0)) (d := d) (hd := hd) (.tmp 6) (.tmp 11) i13.op i13.dst p6 e11 (show DBlk _ g6 (0, 0, 0, []) (none, 0, 0) from ((st4_other n56.symm).trans ((st4_other n46.symm).trans ((st4_other n36.symm).trans k6)))) ⟨show DBlk _ g1 d hd from ((st4_other n16).trans ((st4_other n15).trans ((st4_other n14).trans ((st4_other n13).trans s0)))), ?_⟩)
    refine wpListS_want (wanted_none i14.guard) (wp_store4 (g := g7) (d0 := (0, 0, 0, [])) (h0 := (none, 0, 0)) (d := d) (hd := hd) (.tmp 7) (.tmp 12) i14.op i14.dst p7 e12 (show DBlk _ g7 (0, 0, 0, []) (none, 0, 0) from ((st4_other n67.symm).trans ((st4_other n57.symm).trans ((st4_other n47.symm).trans ((st4_other n37.symm).trans k7))))) ⟨show DBlk _ g1 d hd from ((st4_other n17).trans ((st4_other n16).trans ((st4_other n15).trans ((st4_other n14).trans ((st4_other n13).trans s0))))), ?_⟩)
    refine wpListS_nil (NoPanic.normal ?_)
    rw [ef]
    exact h g3 g4 g5 g6 g7 _ ⟨hg3, hg4, hg5, hg6, hg7⟩ ⟨n34, n35, n36, n37, n45, n46, n47, n56, n57, n67⟩ (hb.trans hbb)
      ((st4_other n37).trans ((st4_other n36).trans ((st4_other n35).trans ((st4_other n34).trans (st4_same k3)))))
      ((st4_other n47).trans ((st4_other n46).trans ((st4_other n45).trans (st4_same ((st4_other n34.symm).trans k4)))))
      ((st4_other n57).trans ((st4_other n56).trans (st4_same ((st4_other n45.symm).trans ((st4_other n35.symm).trans k5)))))
      ((st4_other n67).trans (st4_same ((st4_other n56.symm).trans ((st4_other n46.symm).trans ((st4_other n36.symm).trans k6)))))
      (st4_same ((st4_other n67.symm).trans ((st4_other n57.symm).trans ((st4_other n47.symm).trans ((st4_other n37.symm).trans k7)))))
end Go.Proofs.Ytlkjlmmdllkdcaa
