/- Regions walked one operation at a time where each value is told outright: fewer steps for Lean; plain operations (moves, picks, bools) without a walk. No program is named here. -/
import Derived.Test.YtdkchiodepdclaaReg5
import Derived.KernelRfl
namespace Go.Proofs.Ytdkchiodepdclaa
open Go.RowKit
def putAll : List Tmp → List Value → Act → Act
  | [], _, a => a
  | _ :: _, [], a => a
  | d :: ds, v :: vs, a => putAll ds vs (a.put (some d) v)
theorem over_vals {T : Tmp → Ty} {w : World} {K : Act → Prop} : ∀ {ds : List Tmp} (vs : List Value) {a : Act}, ds.map T = vs.map .val → K (putAll ds vs a) → over T ds a w K
  | [], vs, a, _, k => by
    cases vs <;> exact k
  | d :: ds, [], a, h, _ => by cases h
  | d :: ds, v :: vs, a, h, k => by
    simp only [List.map_cons, List.cons.injEq] at h
    exact over_val h.1 (over_vals vs h.2 k)
theorem put_at {a : Act} {d : Tmp} {v : Value} (h : Nat.blt d a.tmps.size = true) : (a.put (some d) v).tmps.getD d undef = v := by
  have h' : d < a.tmps.size := Nat.le_of_ble_eq_true h
  simp [Act.put, Array.getD, h']
theorem post_run {P : Program} {ops : Array Oper} {T : Tmp → Ty} {D : List Deferred} {o : Oper} {a : Act} {w : World} {d : Tmp} (v : Value) (hd : o.dst = some d) (hD : a.defers = D) (hs : Nat.blt d a.tmps.size = true)
    (hw : Region.wanted o (yielded ops a.tmps) = true) (hr : (execOp a.eval o).run P w = .ok (.value v) w) (ht : T d = .val v) : wpList P ops (Post T D o w) [o] a w := by
  unfold wpList
  rw [if_pos hw]
  left
  unfold Oper.wp
  rw [hr]
  refine post_of hd ?_ (Below.refl _ _) ?_
  · rw [hd]; exact hD
  · rw [hd, put_at hs, ht]; rfl
theorem post_skip {P : Program} {ops : Array Oper} {T : Tmp → Ty} {D : List Deferred} {o : Oper} {a : Act} {w : World} {d : Tmp} (hd : o.dst = some d) (hD : a.defers = D) (hs : Nat.blt d a.tmps.size = true)
    (hw : Region.wanted o (yielded ops a.tmps) = false) (ht : T d = .val undef) : wpList P ops (Post T D o w) [o] a w := by
  unfold wpList
  rw [if_neg (by rw [hw]; decide)]
  refine post_of hd ?_ (Below.refl _ _) ?_
  · rw [hd]; exact hD
  · rw [hd, put_at hs, ht]; rfl
/-- The types out of a list of values. -/
def tyV (L : List (Tmp × Value)) : Tmp → Ty := tyOf (L.map fun x => (x.1, .val x.2))
section
variable {P : Program} {Q : Exit → Act → World → Prop}
theorem wp_region_vals {id : Nat} {a : Act} {w : World} {l : List Oper} (n : Nat) (L : List (Tmp × Value)) (D : List (List Tmp)) (hm : P.follows .mixedOrders = true) (hB : regOK l.toArray D n = true)
    (hd : dstsOf (l.take n) = L.map Prod.fst) (hv : (L.map Prod.fst).map (tyV L) = (L.map Prod.snd).map .val)
    (hg : goals P l.toArray (tyV L) w a (l.take n) D)
    (hend : ∀ w', Below w.heap.size w w' → wpList P l.toArray Q (l.drop n) (putAll (L.map Prod.fst) (L.map Prod.snd) a) w') : (Code.region id l.toArray true).wp P Q a w :=
  wp_region_typed n _ D hm hB hg fun w' hb => by
    rw [hd]
    exact over_vals (T := tyV L) (L.map Prod.snd) hv (hend w' hb)
theorem wp_row_vals {id : Nat} {a : Act} {w : World} {l : List Oper} (n : Nat) (L : List (Tmp × Value)) (D : List (List Tmp)) (hB : rowOK l.toArray D n = true)
    (hd : dstsOf (l.take n) = L.map Prod.fst) (hv : (L.map Prod.fst).map (tyV L) = (L.map Prod.snd).map .val)
    (hg : goals P l.toArray (tyV L) w a (l.take n) D)
    (hend : ∀ w', Below w.heap.size w w' → wpList P l.toArray Q (l.drop n) (putAll (L.map Prod.fst) (L.map Prod.snd) a) w') : (Code.region id l.toArray false).wp P Q a w :=
  wp_region_row n _ D hB hg fun w' hb => by
    rw [hd]
    exact over_vals (T := tyV L) (L.map Prod.snd) hv (hend w' hb)
theorem wp_region_vals_end {id : Nat} {a : Act} {w : World} {l : List Oper} (n : Nat) (L : List (Tmp × Value)) (D : List (List Tmp)) (hm : P.follows .mixedOrders = true) (hB : regOK l.toArray D n = true)
    (hg : goals P l.toArray (tyV L) w a (l.take n) D)
    (hend : ∀ w' a', Below w.heap.size w w' → Behind l.toArray n (tyV L) a w' a' → wpList P l.toArray Q (l.drop n) a' w') : (Code.region id l.toArray true).wp P Q a w :=
  wp_region_typed_end n _ D hm hB hg hend
theorem wp_row_vals_end {id : Nat} {a : Act} {w : World} {l : List Oper} (n : Nat) (L : List (Tmp × Value)) (D : List (List Tmp)) (hB : rowOK l.toArray D n = true)
    (hg : goals P l.toArray (tyV L) w a (l.take n) D)
    (hend : ∀ w' a', Below w.heap.size w w' → Behind l.toArray n (tyV L) a w' a' → wpList P l.toArray Q (l.drop n) a' w') : (Code.region id l.toArray false).wp P Q a w :=
  wp_region_row_end n _ D hB hg hend
end
end Go.Proofs.Ytdkchiodepdclaa
