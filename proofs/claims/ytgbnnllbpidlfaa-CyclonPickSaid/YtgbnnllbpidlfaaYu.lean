/- Layer 10: CyclonPick: a map of nodes that the call makes. -/
import Derived.Test.YtgbnnllbpidlfaaYs
import Derived.Maps.OwnSet
import Derived.Maps.OwnOps
namespace Go.Proofs.Ytgbnnllbpidlfaa
open Go.RowKit Go.Maps
set_option linter.unusedVariables false
abbrev MU : TypeId := 47
theorem keyedU : Keyed Try.prog 5 := int_keyed Try.underlying5
theorem wf8u {a : Int} (h : byt a) : (Lit.int .u8 a).wf = true := by
  obtain ⟨h1, h2⟩ := h
  have h3 : IntKind.u8.min = 0 := rfl
  have h4 : IntKind.u8.max = 255 := rfl
  simp [Lit.wf, h3, h4]; omega
theorem keyU {a : Int} (h : byt a) : keyOf Try.prog 5 (.int .u8 a) = some (.int .u8 a) := keyOf_int_mk Try.underlying5 (wf8u h)
abbrev oneU : DataW Unit := .lit (.int .i64 1)
def DU : List Int → DataW Unit
  | [] => .map []
  | m :: N => (DU N).put (.int .u8 m) oneU
theorem DU_isMap : ∀ N : List Int, IsMap (DU N)
  | [] => isMap_empty
  | m :: N => (DU_isMap N).put _ _
theorem DU_at {x : Int} (hx : byt x) (z : DataW Unit) : ∀ N : List Int, (DU N).atKey (.int .u8 x) z = if x ∈ N then oneU else z
  | [] => by simp [DU, DataW.atKey]
  | m :: N => by
    have ih := DU_at hx z N
    unfold DU
    by_cases e : x = m
    · subst e
      rw [atKey_put_same (DU_isMap N) (keyedU.key (keyU hx)), if_pos List.mem_cons_self]
    · rw [atKey_put_other (fun h => e (by injection h)), ih]
      have : x ∈ m :: N ↔ x ∈ N := by
        rw [List.mem_cons]; exact ⟨fun h => h.resolve_left e, .inr⟩
      simp only [this]
noncomputable abbrev IntU : Value → Option (DataW Unit × List MemPlace) := plainElem Try.prog 3
/-- Block b is the map of the nodes met. -/
abbrev OwnU (w : World) (b : Nat) (N : List Int) : Prop := w.ownsMap Try.prog 5 IntU b N.length (DU N)
theorem mtU : Try.prog.underlying MU = some (.map 5 3) := Try.underlying47
theorem zintU (w : World) : (zeroValue 3).run Try.prog w = .ok (.int .i64 0) w := by kernel_rfl
theorem OwnU.look {w : World} {b : Nat} {N : List Int} (h : OwnU w b N) {x : Int} (hx : byt x) :
    (Instr.lookup MU (.map (some b)) (.int .u8 x) false).run Try.prog w = .ok (.int .i64 (if x ∈ N then 1 else 0)) w := by
  obtain ⟨c, hrun, hat, _⟩ := World.ownsMap.lookup_int h keyedU mtU Try.underlying3 (zintU w) (keyU hx)
  rw [DU_at hx _ N] at hat
  rw [hrun]
  split at hat
  · rename_i h1; rw [if_pos h1]; simp at hat; rw [← hat]
  · rename_i h1; rw [if_neg h1]; simp at hat; rw [← hat]
theorem OwnU.next {w w' : World} {b : Nat} {N : List Int} (h : OwnU w b N) (hb : Below w.heap.size w w') : OwnU w' b N := by
  have hl := World.ownsMap.lt h
  obtain ⟨es, clock, h1, r⟩ := h
  exact ⟨es, clock, (hb.block b hl).trans h1, r⟩
theorem OwnU.made (w : World) : OwnU (w.alloc (.map #[] 0)) w.heap.size [] := World.ownsMap_made w _ _ _
theorem ownU_lt {w : World} {b : Nat} {N : List Int} (h : OwnU w b N) : b < w.heap.size := World.ownsMap.lt h
end Go.Proofs.Ytgbnnllbpidlfaa
