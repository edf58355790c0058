/-
  No cell of these rows narrows 'for every input' (looked for: loops, veiled, ifaces, maps, wideKeys, modest, calm, conditions, laid).
  DERIVED. THE GIVEN ROWS OF THIS SEAT. 5 by the template 'for every input the law returns true; each argument reads behind the call as it read before'; 0 by the template 'total and deterministic' (their statements: YtdpcknfplognmaaTotals.lean).
  GIVEN WITH THE SEED: the statements are not yours to turn. If you find one false, say at which input.
  Laid BY PROGRAM, IN A SANDBOX (cutbox-rows.mjs): the forced cells as the released guide's own fill.sh prints them over the translation 7768060b9231e860… (all of the seat's roots in one cut). By AI agents, Wed Nov 11 2026. No macro, syntax, notation, axiom, sorry.
-/
import Derived.Test.YtdpcknfplognmaaChecked
import GoSem.Claim
import GoSem.ClaimJoined
import GoSem.ClaimMapViews
import Derived.JoinedTies
import Derived.KernelRfl
namespace Go.Proofs.Ytdpcknfplognmaa
/- THE CELL 'sum', in the pinned program and in every row, IS THE sha256 OF THE DUMP (.gsa) THAT YtdpcknfplognmaaProg.lean LOADS. Nothing in Lean hashes anything: it is a label: what it is worth is what the hold of that sum in a sandbox is worth. -/
noncomputable def Try.pinned : Pinned := { name := "ytdpcknfplognmaa", sum := "7768060b9231e860f9e83af394bdd2a834b11ad6b6f1d75a6aa996576377a65f", checked := Try.checked }
namespace Rows
def none {H : Type} : Left H := { results := [], args := [] }

/-- 'grapevinelaw07.IdentTells': WHATEVER THE INPUT: true; the input reads as it did. -/
def identTellsSpec : ChangeSpec := { name := "identTells", fn := fun _ => fun
  | [d1, d2, d3, d4, d5] => { results := [.lit (.bool true)], args := [d1, d2, d3, d4, d5] }
  | _ => none }
def identTellsRow : OpenClaim := { program := "ytdpcknfplognmaa", sum := "7768060b9231e860f9e83af394bdd2a834b11ad6b6f1d75a6aa996576377a65f", func := "grapevine/grapevinelaw07.IdentTells", spec := "identTells", unfollowed := true, recurses := true, apart := false }
def IdentTellsSaid : Prop := identTellsRow.holds Try.pinned (OpenSpec.ofChange identTellsSpec)

/-- ITS FALSE NEIGHBOUR: 'it returns false'. Refute it at one input. -/
def identTellsWrong : ChangeSpec := { name := "identTells", fn := fun _ => fun
  | [d1, d2, d3, d4, d5] => { results := [.lit (.bool false)], args := [d1, d2, d3, d4, d5] }
  | _ => none }
def IdentTellsWrongFalsely : Prop := identTellsRow.holds Try.pinned (OpenSpec.ofChange identTellsWrong)

/-- 'grapevinelaw07.IdentSets': WHATEVER THE INPUT: true; the input reads as it did. -/
def identSetsSpec : ChangeSpec := { name := "identSets", fn := fun _ => fun
  | [d1, d2, d3] => { results := [.lit (.bool true)], args := [d1, d2, d3] }
  | _ => none }
def identSetsRow : OpenClaim := { program := "ytdpcknfplognmaa", sum := "7768060b9231e860f9e83af394bdd2a834b11ad6b6f1d75a6aa996576377a65f", func := "grapevine/grapevinelaw07.IdentSets", spec := "identSets", unfollowed := true, recurses := true, apart := false }
def IdentSetsSaid : Prop := identSetsRow.holds Try.pinned (OpenSpec.ofChange identSetsSpec)

/-- ITS FALSE NEIGHBOUR: 'it returns false'. Refute it at one input. -/
def identSetsWrong : ChangeSpec := { name := "identSets", fn := fun _ => fun
  | [d1, d2, d3] => { results := [.lit (.bool false)], args := [d1, d2, d3] }
  | _ => none }
def IdentSetsWrongFalsely : Prop := identSetsRow.holds Try.pinned (OpenSpec.ofChange identSetsWrong)

/-- 'grapevinelaw07.IdentOrder': WHATEVER THE INPUT: true; the input reads as it did. -/
def identOrderSpec : ChangeSpec := { name := "identOrder", fn := fun _ => fun
  | [d1, d2, d3, d4] => { results := [.lit (.bool true)], args := [d1, d2, d3, d4] }
  | _ => none }
def identOrderRow : OpenClaim := { program := "ytdpcknfplognmaa", sum := "7768060b9231e860f9e83af394bdd2a834b11ad6b6f1d75a6aa996576377a65f", func := "grapevine/grapevinelaw07.IdentOrder", spec := "identOrder", unfollowed := true, recurses := true, apart := false }
def IdentOrderSaid : Prop := identOrderRow.holds Try.pinned (OpenSpec.ofChange identOrderSpec)

/-- ITS FALSE NEIGHBOUR: 'it returns false'. Refute it at one input. -/
def identOrderWrong : ChangeSpec := { name := "identOrder", fn := fun _ => fun
  | [d1, d2, d3, d4] => { results := [.lit (.bool false)], args := [d1, d2, d3, d4] }
  | _ => none }
def IdentOrderWrongFalsely : Prop := identOrderRow.holds Try.pinned (OpenSpec.ofChange identOrderWrong)

/-- 'grapevinelaw07.IdentRuns': WHATEVER THE INPUT: true; the input reads as it did. -/
def identRunsSpec : ChangeSpec := { name := "identRuns", fn := fun _ => fun
  | [d1, d2, d3] => { results := [.lit (.bool true)], args := [d1, d2, d3] }
  | _ => none }
def identRunsRow : OpenClaim := { program := "ytdpcknfplognmaa", sum := "7768060b9231e860f9e83af394bdd2a834b11ad6b6f1d75a6aa996576377a65f", func := "grapevine/grapevinelaw07.IdentRuns", spec := "identRuns", unfollowed := true, recurses := true, apart := false }
def IdentRunsSaid : Prop := identRunsRow.holds Try.pinned (OpenSpec.ofChange identRunsSpec)

/-- ITS FALSE NEIGHBOUR: 'it returns false'. Refute it at one input. -/
def identRunsWrong : ChangeSpec := { name := "identRuns", fn := fun _ => fun
  | [d1, d2, d3] => { results := [.lit (.bool false)], args := [d1, d2, d3] }
  | _ => none }
def IdentRunsWrongFalsely : Prop := identRunsRow.holds Try.pinned (OpenSpec.ofChange identRunsWrong)

/-- 'grapevinelaw07.IdentRight': WHATEVER THE INPUT: true; the input reads as it did. -/
def identRightSpec : ChangeSpec := { name := "identRight", fn := fun _ => fun
  | [d1, d2, d3, d4, d5] => { results := [.lit (.bool true)], args := [d1, d2, d3, d4, d5] }
  | _ => none }
def identRightRow : OpenClaim := { program := "ytdpcknfplognmaa", sum := "7768060b9231e860f9e83af394bdd2a834b11ad6b6f1d75a6aa996576377a65f", func := "grapevine/grapevinelaw07.IdentRight", spec := "identRight", unfollowed := true, recurses := true, apart := false }
def IdentRightSaid : Prop := identRightRow.holds Try.pinned (OpenSpec.ofChange identRightSpec)

/-- ITS FALSE NEIGHBOUR: 'it returns false'. Refute it at one input. -/
def identRightWrong : ChangeSpec := { name := "identRight", fn := fun _ => fun
  | [d1, d2, d3, d4, d5] => { results := [.lit (.bool false)], args := [d1, d2, d3, d4, d5] }
  | _ => none }
def IdentRightWrongFalsely : Prop := identRightRow.holds Try.pinned (OpenSpec.ofChange identRightWrong)

/- THE SECOND FORM. 'bulk': how many values and letters a reading holds, each counted each time it is reached (what is shared counts as often as it is met; a slice's spare places count too). A statement '..UptoSaid' is the law's where the arguments, and the package variables that the reading takes, are together of bulk at most 1048576: NARROWER than '..Said'. Prove '..Said' where nothing that the law and all that it calls make is longer than what came in: it says more and counts as full. Else prove '..UptoSaid'. A law counts once. -/
mutual
def uptoBulk {H : Type} : DataW H → Nat
  | .lit (.string bytes) => bytes.length + 1
  | .lit _ => 1
  | .nil => 1
  | .ptr d => uptoBulk d + 1
  | .slice elems spare => uptoBulkAll elems + uptoBulkAll spare + 1
  | .agg parts => uptoBulkAll parts + 1
  | .iface _ d => uptoBulk d + 1
  | .map entries => uptoBulkEntries entries + 1
  | .held _ => 1
def uptoBulkAll {H : Type} : List (DataW H) → Nat
  | [] => 0
  | d :: r => uptoBulk d + uptoBulkAll r
def uptoBulkEntries {H : Type} : List (Lit × DataW H) → Nat
  | [] => 0
  | x :: r => uptoBulkEntry x + uptoBulkEntries r
def uptoBulkEntry {H : Type} : Lit × DataW H → Nat
  | (.string bytes, d) => bytes.length + uptoBulk d + 1
  | (_, d) => uptoBulk d + 1
 end
def uptoSmall : (H : Type) → List (DataW H) → Bool := fun _ ds => decide (uptoBulkAll ds ≤ 1048576)
def OpenSpec.upto (s : _root_.Go.ChangeSpec) : _root_.Go.OpenSpec := { _root_.Go.OpenSpec.ofChange s with cond := some uptoSmall }

/-- 'grapevinelaw07.IdentTells', WHERE WHAT IT READS IS OF BULK AT MOST 1048576: true; the input reads as it did. -/
def identTellsUptoRow : OpenClaim := { program := "ytdpcknfplognmaa", sum := "7768060b9231e860f9e83af394bdd2a834b11ad6b6f1d75a6aa996576377a65f", func := "grapevine/grapevinelaw07.IdentTells", spec := "identTells", unfollowed := true, recurses := true, apart := false, narrowed := true }
def IdentTellsUptoSaid : Prop := identTellsUptoRow.holds Try.pinned (OpenSpec.upto identTellsSpec)

/-- 'grapevinelaw07.IdentSets', WHERE WHAT IT READS IS OF BULK AT MOST 1048576: true; the input reads as it did. -/
def identSetsUptoRow : OpenClaim := { program := "ytdpcknfplognmaa", sum := "7768060b9231e860f9e83af394bdd2a834b11ad6b6f1d75a6aa996576377a65f", func := "grapevine/grapevinelaw07.IdentSets", spec := "identSets", unfollowed := true, recurses := true, apart := false, narrowed := true }
def IdentSetsUptoSaid : Prop := identSetsUptoRow.holds Try.pinned (OpenSpec.upto identSetsSpec)

/-- 'grapevinelaw07.IdentOrder', WHERE WHAT IT READS IS OF BULK AT MOST 1048576: true; the input reads as it did. -/
def identOrderUptoRow : OpenClaim := { program := "ytdpcknfplognmaa", sum := "7768060b9231e860f9e83af394bdd2a834b11ad6b6f1d75a6aa996576377a65f", func := "grapevine/grapevinelaw07.IdentOrder", spec := "identOrder", unfollowed := true, recurses := true, apart := false, narrowed := true }
def IdentOrderUptoSaid : Prop := identOrderUptoRow.holds Try.pinned (OpenSpec.upto identOrderSpec)

/-- 'grapevinelaw07.IdentRuns', WHERE WHAT IT READS IS OF BULK AT MOST 1048576: true; the input reads as it did. -/
def identRunsUptoRow : OpenClaim := { program := "ytdpcknfplognmaa", sum := "7768060b9231e860f9e83af394bdd2a834b11ad6b6f1d75a6aa996576377a65f", func := "grapevine/grapevinelaw07.IdentRuns", spec := "identRuns", unfollowed := true, recurses := true, apart := false, narrowed := true }
def IdentRunsUptoSaid : Prop := identRunsUptoRow.holds Try.pinned (OpenSpec.upto identRunsSpec)

/-- 'grapevinelaw07.IdentRight', WHERE WHAT IT READS IS OF BULK AT MOST 1048576: true; the input reads as it did. -/
def identRightUptoRow : OpenClaim := { program := "ytdpcknfplognmaa", sum := "7768060b9231e860f9e83af394bdd2a834b11ad6b6f1d75a6aa996576377a65f", func := "grapevine/grapevinelaw07.IdentRight", spec := "identRight", unfollowed := true, recurses := true, apart := false, narrowed := true }
def IdentRightUptoSaid : Prop := identRightUptoRow.holds Try.pinned (OpenSpec.upto identRightSpec)

end Rows
end Go.Proofs.Ytdpcknfplognmaa
