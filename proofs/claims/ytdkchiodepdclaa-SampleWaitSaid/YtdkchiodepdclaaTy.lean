/- Regions that draw, typed: values told in runs; values that are there where a bool holds. No program is named here. -/
import Derived.Test.YtdkchiodepdclaaReg6
import Derived.Lib.Hide
namespace Go.Proofs.Ytdkchiodepdclaa
open Go.RowKit
set_option linter.unusedVariables false
theorem post_skip' {P : Program} {ops : Array Oper} {T : Tmp → Ty} {D : List Deferred} {o : Oper} {a : Act} {w : World} {d : Tmp} (hd : o.dst = some d) (hD : a.defers = D) (hs : Nat.blt d a.tmps.size = true)
    (hw : Region.wanted o (yielded ops a.tmps) = false) (ht : (T d).holds undef w) : wpList P ops (Post T D o w) [o] a w := by
  unfold wpList
  rw [if_neg (by rw [hw]; decide)]
  refine post_of hd ?_ (Below.refl _ _) ?_
  · rw [hd]; exact hD
  · rw [hd, put_at hs]; exact ht
/-- A value that is there where g holds. -/
def tyIf (g : Bool) (u : Value) : Ty := .pred (fun v _ => g = true → v = u) (fun _ _ _ h _ => h)
theorem over_if {T : Tmp → Ty} {d : Tmp} {ds : List Tmp} {a : Act} {w : World} {K : Act → Prop} (g : Bool) (u : Value) (h : T d = tyIf g u) (k : ∀ v, (g = true → v = u) → over T ds (a.put (some d) v) w K) : over T (d :: ds) a w K := over_pred h k
theorem over_some {T : Tmp → Ty} {w : World} {K : Act → Prop} {ds2 : List Tmp} : ∀ {ds1 : List Tmp} (vs : List Value) {a : Act}, ds1.map T = vs.map .val → over T ds2 (putAll ds1 vs a) w K → over T (ds1 ++ ds2) a w K
  | [], vs, a, _, k => by
    cases vs <;> exact k
  | d :: ds, [], a, h, _ => by cases h
  | d :: ds, v :: vs, a, h, k => by
    simp only [List.map_cons, List.cons.injEq] at h
    exact over_val h.1 (over_some vs h.2 k)
theorem over_ds {T : Tmp → Ty} {w : World} {K : Act → Prop} {l : List Oper} {a : Act} {ds : List Tmp} (h : dstsOf l = ds) (k : over T ds a w K) : over T (dstsOf l) a w K := by rw [h]; exact k
end Go.Proofs.Ytdkchiodepdclaa
