/- Layer 11: 'w, x = a, b' of waits (a region that draws), over operations and a frame that are letters. -/
import Derived.Test.YtdkchiodepdclaaZb
import Derived.Test.YtdkchiodepdclaaReg4
import Derived.Test.YtdkchiodepdclaaReg6
namespace Go.Proofs.Ytdkchiodepdclaa
open Go.RowKit
set_option linter.unusedVariables false
structure OpIs (o : Oper) (op : Op) (d : Option Tmp) : Prop where
  op : o.op = op
  dst : o.dst = d
  guard : o.guard = none
theorem eval_put_ne {a : Act} {d t : Tmp} {u v : Value} (h : d ≠ t) (e : a.eval (.tmp t) = v) : (a.put (some d) u).eval (.tmp t) = v := by
  rw [Act.eval_put (fun d' hd hx => by injection hd with hd; injection hx with hx; exact h (hd.trans hx.symm))]; exact e
theorem eval_put_eq {a : Act} {d : Tmp} {v : Value} (h : d < a.tmps.size) : (a.put (some d) v).eval (.tmp d) = v := by
  simp [Act.put, Act.eval, h]
theorem put_size {a : Act} {d : Tmp} {v : Value} : (a.put (some d) v).tmps.size = a.tmps.size := by simp [Act.put]
theorem wanted_none {o : Oper} {f : Nat → Option Bool} (h : o.guard = none) : Region.wanted o f = true := by simp [Region.wanted, h]
theorem wpListS_want {P : Program} {ops : Array Oper} {S : World → Prop} {Q : Exit → Act → World → Prop} {o : Oper} {rest : List Oper} {a : Act} {w : World} (hw : Region.wanted o (yielded ops a.tmps) = true)
    (h : o.wp P a w (fun a' w' => S w' ∧ wpListS P ops S Q rest a' w') Q) : wpListS P ops S Q (o :: rest) a w := by
  unfold wpListS; rw [if_pos hw]; exact h
theorem wpListS_nil {P : Program} {ops : Array Oper} {S : World → Prop} {Q : Exit → Act → World → Prop} {a : Act} {w : World} (h : Q .normal a w) : wpListS P ops S Q [] a w := h
theorem behind2_fill {n : Nat} {T : Tmp → Ty} {F : Fr} {w0 w' : World} {a a' : Act} {l : List Oper} {ds : List Tmp} (hB : Behind2 l.toArray n T F w0 a w' a') (hds : dstsOf (l.take n) = ds) : a' = fill (fun t => a'.tmps.getD t undef) ds a := by
  subst hds
  have := behind_fill hB.toBehind
  simpa using this
theorem st4_same {w : World} {g : Nat} {a0 b0 c0 d0 a b c d : Value} {t : TypeId} {fr : Nat × Nat} (h : w.heap[g]? = some (.cells #[a0, b0, c0, d0] t fr)) :
    ((((w.setCell ⟨g, 0, none⟩ a).setCell ⟨g, 1, none⟩ b).setCell ⟨g, 2, none⟩ c).setCell ⟨g, 3, none⟩ d).heap[g]? = some (.cells #[a, b, c, d] t fr) :=
  Go.Joins.block_setCell (i := 3) (Go.Joins.block_setCell (i := 2) (Go.Joins.block_setCell (i := 1) (Go.Joins.block_setCell (i := 0) h a) b) c) d
theorem st4_other {w : World} {g k : Nat} {a b c d : Value} (h : k ≠ g) : ((((w.setCell ⟨g, 0, none⟩ a).setCell ⟨g, 1, none⟩ b).setCell ⟨g, 2, none⟩ c).setCell ⟨g, 3, none⟩ d).heap[k]? = w.heap[k]? := by
  rw [Below.heap_setCell _ _ _ _ h, Below.heap_setCell _ _ _ _ h, Below.heap_setCell _ _ _ _ h, Below.heap_setCell _ _ _ _ h]
theorem loadW_run {o : Oper} {a : Act} {w : World} {g : Nat} {d : Wn} {hd : Hd} (x : Operand) (ho : o.op = .load 31 x) (hx : a.eval x = .pointer (some ⟨g, 0, none⟩)) (h : WBlk w g d hd) : (execOp a.eval o).run Try.prog w = .ok (.value (.agg #[.bool d.1, .int .u8 d.2.1, .int .u8 d.2.2, .slice hd.1 hd.2.1 hd.2.2])) w := by
  obtain ⟨h0, h1, h2, h3⟩ := h.cells
  unfold execOp
  simp only [ho, hx]
  simp [go_sem, h0, h1, h2, h3]
theorem wp_storeW {o : Oper} {a : Act} {w : World} {K : Act → World → Prop} {Q : Exit → Act → World → Prop} {g : Nat} {d0 : Wn} {h0 : Hd} {d : Wn} {hd : Hd} (x y : Operand) (ho : o.op = .store 31 x y) (hdst : o.dst = none)
    (hx : a.eval x = .pointer (some ⟨g, 0, none⟩)) (hy : a.eval y = (.agg #[.bool d.1, .int .u8 d.2.1, .int .u8 d.2.2, .slice hd.1 hd.2.1 hd.2.2])) (h : WBlk w g d0 h0)
    (hK : K a ((((w.setCell ⟨g, 0, none⟩ (.bool d.1)).setCell ⟨g, 1, none⟩ (.int .u8 d.2.1)).setCell ⟨g, 2, none⟩ (.int .u8 d.2.2)).setCell ⟨g, 3, none⟩ (.slice hd.1 hd.2.1 hd.2.2))) : o.wp Try.prog a w K Q := by
  obtain ⟨dst, op, ty, pos, after, guard⟩ := o
  simp only at ho hdst
  subst ho hdst
  obtain ⟨c0, c1, c2, c3⟩ := h.cells
  have f := h.free
  have key : wpList Try.prog #[{ dst := none, op := .store 31 (.tmp 0) (.tmp 1), type := ty, pos := pos, after := #[], guard := none }]
      (fun e a' w' => e = .normal ∧ a'.defers = [] ∧ w' = ((((w.setCell ⟨g, 0, none⟩ (.bool d.1)).setCell ⟨g, 1, none⟩ (.int .u8 d.2.1)).setCell ⟨g, 2, none⟩ (.int .u8 d.2.2)).setCell ⟨g, 3, none⟩ (.slice hd.1 hd.2.1 hd.2.2)))
      [{ dst := none, op := .store 31 (.tmp 0) (.tmp 1), type := ty, pos := pos, after := #[], guard := none }]
      ⟨#[.pointer (some ⟨g, 0, none⟩), (.agg #[.bool d.1, .int .u8 d.2.1, .int .u8 d.2.2, .slice hd.1 hd.2.1 hd.2.2])], []⟩ w := by
    have f0 := f 0
    have f1 := f 1
    have f2 := f 2
    have f3 := f 3
    go_wp2
  unfold wpList at key
  have hw : Region.wanted { dst := none, op := Op.store 31 (.tmp 0) (.tmp 1), type := ty, pos := pos, after := #[], guard := none } (yielded #[{ dst := none, op := .store 31 (.tmp 0) (.tmp 1), type := ty, pos := pos, after := #[], guard := none }] (#[.pointer (some ⟨g, 0, none⟩), (.agg #[.bool d.1, .int .u8 d.2.1, .int .u8 d.2.2, .slice hd.1 hd.2.1 hd.2.2])] : Array Value)) = true := wanted_none rfl
  rw [if_pos hw] at key
  rcases key with key | ⟨_, _, _, hq, _⟩
  · unfold Oper.wp at key ⊢
    have he : execOp a.eval { dst := none, op := Op.store 31 x y, type := ty, pos := pos, after := after, guard := guard } = execOp (Act.eval ⟨#[.pointer (some ⟨g, 0, none⟩), (.agg #[.bool d.1, .int .u8 d.2.1, .int .u8 d.2.2, .slice hd.1 hd.2.1 hd.2.2])], []⟩) { dst := none, op := Op.store 31 (.tmp 0) (.tmp 1), type := ty, pos := pos, after := #[], guard := none } := by
      unfold execOp
      simp only [hx, hy]
      rfl
    rw [he]
    generalize (execOp (Act.eval _) _).run Try.prog w = r at *
    cases r with
    | ok n w' =>
      cases n <;> simp only [Oper.upon, wpList] at key ⊢
      case value v => obtain ⟨_, _, rfl⟩ := key; exact hK
      case skip => obtain ⟨_, _, rfl⟩ := key; exact hK
      case defer d => obtain ⟨_, h', _⟩ := key; simp [Act.put] at h'
      case enter f' args =>
        refine Calls.mono key fun e w'' he => ?_
        cases e with
        | returned v => obtain ⟨_, _, rfl⟩ := he; exact hK
        | panicked c => exact absurd he.1 (by simp)
        | outgrown => obtain ⟨_, _, hq, _⟩ := he; cases hq
      case row r' args => exact Rows.mono key fun v w'' hv => by obtain ⟨_, _, rfl⟩ := hv; exact hK
    | halt x' w' =>
      cases x' <;> simp only [Oper.upon] at key ⊢
      exact absurd key.1 (by simp)
  · cases hq
theorem wp_loadW {o : Oper} {a : Act} {w : World} {K : Act → World → Prop} {Q : Exit → Act → World → Prop} {g : Nat} {d : Wn} {hd : Hd} (x : Operand) (ho : o.op = .load 31 x) (hx : a.eval x = .pointer (some ⟨g, 0, none⟩)) (h : WBlk w g d hd)
    (hK : K (a.put o.dst (.agg #[.bool d.1, .int .u8 d.2.1, .int .u8 d.2.2, .slice hd.1 hd.2.1 hd.2.2])) w) : o.wp Try.prog a w K Q := by
  unfold Oper.wp
  rw [loadW_run x ho hx h]
  exact hK
theorem wpList_loadW {ops : Array Oper} {rest : List Oper} {o : Oper} {a : Act} {w : World} {Q : Exit → Act → World → Prop} {g : Nat} {d : Wn} {hd : Hd} (x : Operand) (ho : o.op = .load 31 x) (hw : Region.wanted o (yielded ops a.tmps) = true) (hx : a.eval x = .pointer (some ⟨g, 0, none⟩)) (h : WBlk w g d hd)
    (hK : wpList Try.prog ops Q rest (a.put o.dst (.agg #[.bool d.1, .int .u8 d.2.1, .int .u8 d.2.2, .slice hd.1 hd.2.1 hd.2.2])) w) : wpList Try.prog ops Q (o :: rest) a w := by
  unfold wpList
  rw [if_pos hw]
  left
  exact wp_loadW x ho hx h hK
theorem put_selfA {a : Act} {d : Nat} {v : Value} (hd : d < a.tmps.size) (h : a.tmps.getD d undef = v) : a.put (some d) v = a := by
  obtain ⟨t, fr⟩ := a
  simp only [Act.put] at *
  congr 1
  apply Array.ext_getElem?
  intro i
  by_cases e : d = i
  · subst e
    rw [Array.getElem?_setIfInBounds_self_of_lt hd, ← h]
    simp [Array.getD, hd]
  · rw [Array.getElem?_setIfInBounds_ne e]
set_option maxRecDepth 100000 in
theorem two_gen {Q : Exit → Act → World → Prop} {id : Nat} {a : Act} {w : World} {ga gb g1 g2 : Nat} {s t s0 t0 : Wn} {h k h0 k0 : Hd} {x0 x1 x2 x3 d0 d1 : Nat} {o0 o1 o2 o3 : Oper}
    (i0 : OpIs o0 (.load 31 (.tmp x0)) (some d0))
    (i1 : OpIs o1 (.load 31 (.tmp x1)) (some d1))
    (i2 : OpIs o2 (.store 31 (.tmp x2) (.tmp d0)) none)
    (i3 : OpIs o3 (.store 31 (.tmp x3) (.tmp d1)) none)
    (hm : Try.prog.follows .mixedOrders = true) (hB3 : reg3OK [o0, o1, o2, o3].toArray [[], []] 2 2 = true) (hH : headOK [o0, o1, o2, o3].toArray 2 = true) (hC : closedOK [o0, o1, o2, o3].toArray 2 = true)
    (hne : (d0 ≠ d1 ∧ d0 ≠ x1 ∧ d0 ≠ x2 ∧ d0 ≠ x3 ∧ d1 ≠ x2 ∧ d1 ≠ x3)) (hn0 : d0 < a.tmps.size) (hn1 : d1 < a.tmps.size)
    (e0 : a.eval (.tmp x0) = .pointer (some ⟨ga, 0, none⟩)) (e1 : a.eval (.tmp x1) = .pointer (some ⟨gb, 0, none⟩)) (e2 : a.eval (.tmp x2) = .pointer (some ⟨g1, 0, none⟩)) (e3 : a.eval (.tmp x3) = .pointer (some ⟨g2, 0, none⟩))
    (ka : WBlk w ga s h) (kb : WBlk w gb t k) (k1 : WBlk w g1 s0 h0) (k2 : WBlk w g2 t0 k0) (ga1 : ga ≠ g1) (ga2 : ga ≠ g2) (gb1 : gb ≠ g1) (gb2 : gb ≠ g2) (g12 : g1 ≠ g2)
    (hQ : ∀ w' : World, Below w.heap.size w w' → Q .normal (putAll [d0, d1] [(.agg #[.bool s.1, .int .u8 s.2.1, .int .u8 s.2.2, .slice h.1 h.2.1 h.2.2]), (.agg #[.bool t.1, .int .u8 t.2.1, .int .u8 t.2.2, .slice k.1 k.2.1 k.2.2])] a) ((((((((w'.setCell ⟨g1, 0, none⟩ (.bool s.1)).setCell ⟨g1, 1, none⟩ (.int .u8 s.2.1)).setCell ⟨g1, 2, none⟩ (.int .u8 s.2.2)).setCell ⟨g1, 3, none⟩ (.slice h.1 h.2.1 h.2.2)).setCell ⟨g2, 0, none⟩ (.bool t.1)).setCell ⟨g2, 1, none⟩ (.int .u8 t.2.1)).setCell ⟨g2, 2, none⟩ (.int .u8 t.2.2)).setCell ⟨g2, 3, none⟩ (.slice k.1 k.2.1 k.2.2))) :
    (Code.region id [o0, o1, o2, o3].toArray true).wp Try.prog Q a w := by
  obtain ⟨n1, n2, n3, n4, n5, n6⟩ := hne
  have t2 : [o0, o1, o2, o3].take 2 = [o0, o1] := rfl
  have ds2 : dstsOf [o0, o1] = [d0, d1] := by simp [dstsOf, i0.dst, i1.dst]
  refine wp_region_typed3 2 2 [(d0, .val (.agg #[.bool s.1, .int .u8 s.2.1, .int .u8 s.2.2, .slice h.1 h.2.1 h.2.2])), (d1, .val (.agg #[.bool t.1, .int .u8 t.2.1, .int .u8 t.2.2, .slice k.1 k.2.1 k.2.2]))] (fun _ _ _ => False) [[], []] (fun w' => WBlk w' ga s h ∧ WBlk w' gb t k) hm hB3 hH hC (by decide) (fun w' hb => ⟨ka.next hb, kb.next hb⟩) ?_
  rw [t2]
  refine ⟨(.agg #[.bool s.1, .int .u8 s.2.1, .int .u8 s.2.2, .slice h.1 h.2.1 h.2.2]), .inl ⟨wanted_none i0.guard, fun w' hS => loadW_run (.tmp x0) i0.op e0 hS.1⟩, ?_⟩
  rw [i0.dst]
  refine ⟨(.agg #[.bool t.1, .int .u8 t.2.1, .int .u8 t.2.2, .slice k.1 k.2.1 k.2.2]), .inl ⟨wanted_none i1.guard, fun w' hS => loadW_run (.tmp x1) i1.op (eval_put_ne n2 e1) hS.2⟩, ?_⟩
  rw [i1.dst]
  have T0 : tyOf [(d0, .val (.agg #[.bool s.1, .int .u8 s.2.1, .int .u8 s.2.2, .slice h.1 h.2.1 h.2.2])), (d1, .val (.agg #[.bool t.1, .int .u8 t.2.1, .int .u8 t.2.2, .slice k.1 k.2.1 k.2.2]))] d0 = .val (.agg #[.bool s.1, .int .u8 s.2.1, .int .u8 s.2.2, .slice h.1 h.2.1 h.2.2]) := by simp [tyOf]
  have T1 : tyOf [(d0, .val (.agg #[.bool s.1, .int .u8 s.2.1, .int .u8 s.2.2, .slice h.1 h.2.1 h.2.2])), (d1, .val (.agg #[.bool t.1, .int .u8 t.2.1, .int .u8 t.2.2, .slice k.1 k.2.1 k.2.2]))] d1 = .val (.agg #[.bool t.1, .int .u8 t.2.1, .int .u8 t.2.2, .slice k.1 k.2.1 k.2.2]) := by
    have hb : Nat.beq d0 d1 = false := by
      cases hq : Nat.beq d0 d1
      · rfl
      · exact absurd (Nat.eq_of_beq_eq_true hq) n1
    simp [tyOf, hb]
  have hf : putAll [d0, d1] [(.agg #[.bool s.1, .int .u8 s.2.1, .int .u8 s.2.2, .slice h.1 h.2.1 h.2.2]), (.agg #[.bool t.1, .int .u8 t.2.1, .int .u8 t.2.2, .slice k.1 k.2.1 k.2.2])] a = (a.put (some d0) (.agg #[.bool s.1, .int .u8 s.2.1, .int .u8 s.2.2, .slice h.1 h.2.1 h.2.2])).put (some d1) (.agg #[.bool t.1, .int .u8 t.2.1, .int .u8 t.2.2, .slice k.1 k.2.1 k.2.2]) := rfl
  have v0 : ((a.put (some d0) (.agg #[.bool s.1, .int .u8 s.2.1, .int .u8 s.2.2, .slice h.1 h.2.1 h.2.2])).put (some d1) (.agg #[.bool t.1, .int .u8 t.2.1, .int .u8 t.2.2, .slice k.1 k.2.1 k.2.2])).tmps.getD d0 undef = (.agg #[.bool s.1, .int .u8 s.2.1, .int .u8 s.2.2, .slice h.1 h.2.1 h.2.2]) := eval_put_ne n1.symm (eval_put_eq hn0)
  have v1 : ((a.put (some d0) (.agg #[.bool s.1, .int .u8 s.2.1, .int .u8 s.2.2, .slice h.1 h.2.1 h.2.2])).put (some d1) (.agg #[.bool t.1, .int .u8 t.2.1, .int .u8 t.2.2, .slice k.1 k.2.1 k.2.2])).tmps.getD d1 undef = (.agg #[.bool t.1, .int .u8 t.2.1, .int .u8 t.2.2, .slice k.1 k.2.1 k.2.2]) := eval_put_eq (by rw [put_size]; exact hn1)
  have v2 : ((a.put (some d0) (.agg #[.bool s.1, .int .u8 s.2.1, .int .u8 s.2.2, .slice h.1 h.2.1 h.2.2])).put (some d1) (.agg #[.bool t.1, .int .u8 t.2.1, .int .u8 t.2.2, .slice k.1 k.2.1 k.2.2])).tmps.getD x2 undef = .pointer (some ⟨g1, 0, none⟩) := eval_put_ne n5 (eval_put_ne n3 e2)
  have v3 : ((a.put (some d0) (.agg #[.bool s.1, .int .u8 s.2.1, .int .u8 s.2.2, .slice h.1 h.2.1 h.2.2])).put (some d1) (.agg #[.bool t.1, .int .u8 t.2.1, .int .u8 t.2.2, .slice k.1 k.2.1 k.2.2])).tmps.getD x3 undef = .pointer (some ⟨g2, 0, none⟩) := eval_put_ne n6 (eval_put_ne n4 e3)
  rw [← hf] at v0 v1 v2 v3 ⊢
  rw [ds2]
  refine ⟨?_, ?_, ?_⟩
  · intro d' hd'
    simp only [List.mem_cons, List.not_mem_nil, or_false] at hd'
    rcases hd' with rfl | rfl
    · exact ⟨fun w' => by rw [T0]; exact v0, fun g hg => hg⟩
    · exact ⟨fun w' => by rw [T1]; exact v1, fun g hg => hg⟩
  · intro i o hi hi' ho w5 hb
    omega
  · intro w4 af hb hB
    have ds2' : dstsOf ([o0, o1, o2, o3].toArray.toList.take 2) = [d0, d1] := by show dstsOf [o0, o1] = _; exact ds2
    have ef := behind2_fill (ds := [d0, d1]) hB (by show dstsOf [o0, o1] = _; exact ds2)
    have f0 : af.tmps.getD d0 undef = (.agg #[.bool s.1, .int .u8 s.2.1, .int .u8 s.2.2, .slice h.1 h.2.1 h.2.2]) := by have := hB.new d0 (by rw [ds2']; simp); rw [T0] at this; exact this
    have f1 : af.tmps.getD d1 undef = (.agg #[.bool t.1, .int .u8 t.2.1, .int .u8 t.2.2, .slice k.1 k.2.1 k.2.2]) := by have := hB.new d1 (by rw [ds2']; simp); rw [T1] at this; exact this
    have ea : af = putAll [d0, d1] [(.agg #[.bool s.1, .int .u8 s.2.1, .int .u8 s.2.2, .slice h.1 h.2.1 h.2.2]), (.agg #[.bool t.1, .int .u8 t.2.1, .int .u8 t.2.2, .slice k.1 k.2.1 k.2.2])] a := by
      rw [ef]
      simp only [fill, f0, f1]
      rw [put_selfA (d := d0) (by rw [hf, put_size, put_size]; exact hn0) v0, put_selfA (d := d1) (by rw [hf, put_size, put_size]; exact hn1) v1]
    subst ea
    show wpListS _ _ _ _ [o2, o3] _ w4
    refine wpListS_want (wanted_none i2.guard) (wp_storeW (g := g1) (d0 := s0) (h0 := h0) (d := s) (hd := h) (.tmp x2) (.tmp d0) i2.op i2.dst v2 v0 (k1.next hb) ⟨⟨(st4_other ga1).trans (ka.next hb), (st4_other gb1).trans (kb.next hb)⟩, ?_⟩)
    refine wpListS_want (wanted_none i3.guard) (wp_storeW (g := g2) (d0 := t0) (h0 := k0) (d := t) (hd := k) (.tmp x3) (.tmp d1) i3.op i3.dst v3 v1 ((st4_other g12.symm).trans (k2.next hb)) ⟨⟨(st4_other ga2).trans ((st4_other ga1).trans (ka.next hb)), (st4_other gb2).trans ((st4_other gb1).trans (kb.next hb))⟩, ?_⟩)
    refine wpListS_nil (NoPanic.normal ?_)
    exact hQ w4 hb
end Go.Proofs.Ytdkchiodepdclaa
