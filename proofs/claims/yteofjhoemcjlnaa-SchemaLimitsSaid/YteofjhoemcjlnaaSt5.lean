/- An event is stored: five cells. -/
import Derived.Test.YteofjhoemcjlnaaEvw
import Derived.Test.YteofjhoemcjlnaaReg4
namespace Go.Proofs.Yteofjhoemcjlnaa
open Go.RowKit
theorem wp_store5 {o : Oper} {a : Act} {w : World} {K : Act → World → Prop} {Q : Exit → Act → World → Prop} {g : Nat} {a0 b0 c0 d0 e0 : Value} {nd ic sq : Int} {V D : Option Addr} {vn vc dn dc : Nat} (x y : Operand) (ho : o.op = .store 31 x y) (hd : o.dst = none)
    (hx : a.eval x = .pointer (some ⟨g, 0, none⟩)) (hy : a.eval y = .agg #[.int .u8 nd, .int .u16 ic, .int .u32 sq, .slice V vn vc, .slice D dn dc]) (h : w.heap[g]? = some (.cells #[a0, b0, c0, d0, e0] 31 (0, 0)))
    (hK : K a (((((w.setCell ⟨g, 0, none⟩ (.int .u8 nd)).setCell ⟨g, 1, none⟩ (.int .u16 ic)).setCell ⟨g, 2, none⟩ (.int .u32 sq)).setCell ⟨g, 3, none⟩ (.slice V vn vc)).setCell ⟨g, 4, none⟩ (.slice D dn dc))) : o.wp Try.prog a w K Q := by
  obtain ⟨dst, op, ty, pos, after, guard⟩ := o
  simp only at ho hd
  subst ho hd
  obtain ⟨h0, h1, h2, h3, h4⟩ := ev_cells h
  have f := ev_free h
  have key : wpList Try.prog #[{ dst := none, op := .store 31 (.tmp 0) (.tmp 1), type := ty, pos := pos, after := #[], guard := none }]
      (fun e a' w' => e = .normal ∧ a'.defers = [] ∧ w' = ((((w.setCell ⟨g, 0, none⟩ (.int .u8 nd)).setCell ⟨g, 1, none⟩ (.int .u16 ic)).setCell ⟨g, 2, none⟩ (.int .u32 sq)).setCell ⟨g, 3, none⟩ (.slice V vn vc)).setCell ⟨g, 4, none⟩ (.slice D dn dc))
      [{ dst := none, op := .store 31 (.tmp 0) (.tmp 1), type := ty, pos := pos, after := #[], guard := none }]
      ⟨#[.pointer (some ⟨g, 0, none⟩), .agg #[.int .u8 nd, .int .u16 ic, .int .u32 sq, .slice V vn vc, .slice D dn dc]], []⟩ w := by
    go_wp2
  unfold wpList at key
  have hw : Region.wanted { dst := none, op := Op.store 31 (.tmp 0) (.tmp 1), type := ty, pos := pos, after := #[], guard := none } (yielded #[{ dst := none, op := .store 31 (.tmp 0) (.tmp 1), type := ty, pos := pos, after := #[], guard := none }] (#[.pointer (some ⟨g, 0, none⟩), .agg #[.int .u8 nd, .int .u16 ic, .int .u32 sq, .slice V vn vc, .slice D dn dc]] : Array Value)) = true := rfl
  rw [if_pos hw] at key
  rcases key with key | ⟨_, _, _, hq, _⟩
  · unfold Oper.wp at key ⊢
    have he : execOp a.eval { dst := none, op := Op.store 31 x y, type := ty, pos := pos, after := after, guard := guard } = execOp (Act.eval ⟨#[.pointer (some ⟨g, 0, none⟩), .agg #[.int .u8 nd, .int .u16 ic, .int .u32 sq, .slice V vn vc, .slice D dn dc]], []⟩) { dst := none, op := Op.store 31 (.tmp 0) (.tmp 1), type := ty, pos := pos, after := #[], guard := none } := by
      unfold execOp
      simp only [hx, hy]
      rfl
    rw [he]
    generalize (execOp (Act.eval _) _).run Try.prog w = r at *
    cases r with
    | ok n w' =>
      cases n <;> simp only [Oper.upon, wpList] at key ⊢
      case value v => obtain ⟨_, _, rfl⟩ := key; exact hK
      case skip => obtain ⟨_, _, rfl⟩ := key; exact hK
      case defer d => obtain ⟨_, h', _⟩ := key; simp [Act.put] at h'
      case enter f' args =>
        refine Calls.mono key fun e w'' he => ?_
        cases e with
        | returned v => obtain ⟨_, _, rfl⟩ := he; exact hK
        | panicked c => exact absurd he.1 (by simp)
        | outgrown => obtain ⟨_, _, hq, _⟩ := he; cases hq
      case row r' args => exact Rows.mono key fun v w'' hv => by obtain ⟨_, _, rfl⟩ := hv; exact hK
    | halt x' w' =>
      cases x' <;> simp only [Oper.upon] at key ⊢
      exact absurd key.1 (by simp)
  · cases hq
theorem eval_put_ne {a : Act} {d t : Tmp} {u v : Value} (h : d ≠ t) (e : a.eval (.tmp t) = v) : (a.put (some d) u).eval (.tmp t) = v := by
  rw [Act.eval_put (fun d' hd hx => by injection hd with hd; injection hx with hx; exact h (hd.trans hx.symm))]; exact e
theorem ev_tmp {T : Array Value} {D : List Deferred} {t : Tmp} {v : Value} (h : T.getD t undef = v) : Act.eval ⟨T, D⟩ (.tmp t) = v := h
theorem wanted_none {o : Oper} {f : Nat → Option Bool} (h : o.guard = none) : Region.wanted o f = true := by simp [Region.wanted, h]
theorem load5_run {o : Oper} {a : Act} {w : World} {g : Nat} {a0 b0 c0 d0 e0 : Value} (x : Operand) (ho : o.op = .load 31 x) (hx : a.eval x = .pointer (some ⟨g, 0, none⟩)) (h : w.heap[g]? = some (.cells #[a0, b0, c0, d0, e0] 31 (0, 0))) :
    (execOp a.eval o).run Try.prog w = .ok (.value (.agg #[a0, b0, c0, d0, e0])) w := by
  obtain ⟨h0, h1, h2, h3, h4⟩ := ev_cells h
  unfold execOp
  simp only [ho, hx]
  simp [go_sem, h0, h1, h2, h3, h4]
theorem head_cons {P : Program} {ops : Array Oper} {S : World → Prop} {o : Oper} {r : List Oper} {a : Act} {K : Act → Prop} (v : Value) (hy : YieldsIf P ops S o v a) (h : Head P ops S r (a.put o.dst v) K) : Head P ops S (o :: r) a K := ⟨v, hy, h⟩
theorem head_nil {P : Program} {ops : Array Oper} {S : World → Prop} {a : Act} {K : Act → Prop} (h : K a) : Head P ops S [] a K := h
theorem wpListS_want {P : Program} {ops : Array Oper} {S : World → Prop} {Q : Exit → Act → World → Prop} {o : Oper} {rest : List Oper} {a : Act} {w : World} (hw : Region.wanted o (yielded ops a.tmps) = true)
    (h : o.wp P a w (fun a' w' => S w' ∧ wpListS P ops S Q rest a' w') Q) : wpListS P ops S Q (o :: rest) a w := by
  unfold wpListS; rw [if_pos hw]; exact h
theorem wpListS_nil {P : Program} {ops : Array Oper} {S : World → Prop} {Q : Exit → Act → World → Prop} {a : Act} {w : World} (h : Q .normal a w) : wpListS P ops S Q [] a w := h
end Go.Proofs.Yteofjhoemcjlnaa
