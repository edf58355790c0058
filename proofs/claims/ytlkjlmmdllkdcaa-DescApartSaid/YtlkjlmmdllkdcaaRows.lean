/-
  No cell of these rows narrows 'for every input' (looked for: loops, veiled, ifaces, maps, wideKeys, modest, calm, conditions, laid).
  DERIVED. THE GIVEN ROWS OF THIS SEAT. 5 by the template 'for every input the law returns true; each argument reads behind the call as it read before'; 0 by the template 'total and deterministic' (their statements: YtlkjlmmdllkdcaaTotals.lean).
  GIVEN WITH THE SEED: the statements are not yours to turn. If you find one false, say at which input.
  Laid BY PROGRAM, IN A SANDBOX (cutbox-rows.mjs): the forced cells as the released guide's own fill.sh prints them over the translation ac2a46472cf8c9ae… (all of the seat's roots in one cut). By AI agents, Wed Nov 11 2026. No macro, syntax, notation, axiom, sorry.
-/
import Derived.Test.YtlkjlmmdllkdcaaChecked
import GoSem.Claim
import GoSem.ClaimJoined
import GoSem.ClaimMapViews
import Derived.JoinedTies
import Derived.KernelRfl
namespace Go.Proofs.Ytlkjlmmdllkdcaa
/- THE CELL 'sum', in the pinned program and in every row, IS THE sha256 OF THE DUMP (.gsa) THAT YtlkjlmmdllkdcaaProg.lean LOADS. Nothing in Lean hashes anything: it is a label: what it is worth is what the hold of that sum in a sandbox is worth. -/
noncomputable def Try.pinned : Pinned := { name := "ytlkjlmmdllkdcaa", sum := "ac2a46472cf8c9ae7dd6617175814ef41d2e0fe9eda98e77f52ebe2bbac9c2f5", checked := Try.checked }
namespace Rows
def none {H : Type} : Left H := { results := [], args := [] }

/-- 'grapevinelaw09.DescTells': WHATEVER THE INPUT: true; the input reads as it did. -/
def descTellsSpec : ChangeSpec := { name := "descTells", fn := fun _ => fun
  | [d1, d2, d3, d4, d5] => { results := [.lit (.bool true)], args := [d1, d2, d3, d4, d5] }
  | _ => none }
def descTellsRow : OpenClaim := { program := "ytlkjlmmdllkdcaa", sum := "ac2a46472cf8c9ae7dd6617175814ef41d2e0fe9eda98e77f52ebe2bbac9c2f5", func := "grapevine/grapevinelaw09.DescTells", spec := "descTells", inPlace := ["slices.overlaps[grapevine/api.Desc]"], unfollowed := true, recurses := true, apart := false }
def DescTellsSaid : Prop := descTellsRow.holds Try.pinned (OpenSpec.ofChange descTellsSpec)

/-- ITS FALSE NEIGHBOUR: 'it returns false'. Refute it at one input. -/
def descTellsWrong : ChangeSpec := { name := "descTells", fn := fun _ => fun
  | [d1, d2, d3, d4, d5] => { results := [.lit (.bool false)], args := [d1, d2, d3, d4, d5] }
  | _ => none }
def DescTellsWrongFalsely : Prop := descTellsRow.holds Try.pinned (OpenSpec.ofChange descTellsWrong)

/-- 'grapevinelaw09.DescBounds': WHATEVER THE INPUT: true; the input reads as it did. -/
def descBoundsSpec : ChangeSpec := { name := "descBounds", fn := fun _ => fun
  | [d1, d2, d3, d4, d5] => { results := [.lit (.bool true)], args := [d1, d2, d3, d4, d5] }
  | _ => none }
def descBoundsRow : OpenClaim := { program := "ytlkjlmmdllkdcaa", sum := "ac2a46472cf8c9ae7dd6617175814ef41d2e0fe9eda98e77f52ebe2bbac9c2f5", func := "grapevine/grapevinelaw09.DescBounds", spec := "descBounds", inPlace := ["slices.overlaps[grapevine/api.Desc]"], unfollowed := true, recurses := true, apart := false }
def DescBoundsSaid : Prop := descBoundsRow.holds Try.pinned (OpenSpec.ofChange descBoundsSpec)

/-- ITS FALSE NEIGHBOUR: 'it returns false'. Refute it at one input. -/
def descBoundsWrong : ChangeSpec := { name := "descBounds", fn := fun _ => fun
  | [d1, d2, d3, d4, d5] => { results := [.lit (.bool false)], args := [d1, d2, d3, d4, d5] }
  | _ => none }
def DescBoundsWrongFalsely : Prop := descBoundsRow.holds Try.pinned (OpenSpec.ofChange descBoundsWrong)

/-- 'grapevinelaw09.DescNewer': WHATEVER THE INPUT: true; the input reads as it did. -/
def descNewerSpec : ChangeSpec := { name := "descNewer", fn := fun _ => fun
  | [d1, d2, d3, d4] => { results := [.lit (.bool true)], args := [d1, d2, d3, d4] }
  | _ => none }
def descNewerRow : OpenClaim := { program := "ytlkjlmmdllkdcaa", sum := "ac2a46472cf8c9ae7dd6617175814ef41d2e0fe9eda98e77f52ebe2bbac9c2f5", func := "grapevine/grapevinelaw09.DescNewer", spec := "descNewer", inPlace := ["slices.overlaps[grapevine/api.Desc]"], unfollowed := true, recurses := true, apart := false }
def DescNewerSaid : Prop := descNewerRow.holds Try.pinned (OpenSpec.ofChange descNewerSpec)

/-- ITS FALSE NEIGHBOUR: 'it returns false'. Refute it at one input. -/
def descNewerWrong : ChangeSpec := { name := "descNewer", fn := fun _ => fun
  | [d1, d2, d3, d4] => { results := [.lit (.bool false)], args := [d1, d2, d3, d4] }
  | _ => none }
def DescNewerWrongFalsely : Prop := descNewerRow.holds Try.pinned (OpenSpec.ofChange descNewerWrong)

/-- 'grapevinelaw09.DescAges': WHATEVER THE INPUT: true; the input reads as it did. -/
def descAgesSpec : ChangeSpec := { name := "descAges", fn := fun _ => fun
  | [d1, d2] => { results := [.lit (.bool true)], args := [d1, d2] }
  | _ => none }
def descAgesRow : OpenClaim := { program := "ytlkjlmmdllkdcaa", sum := "ac2a46472cf8c9ae7dd6617175814ef41d2e0fe9eda98e77f52ebe2bbac9c2f5", func := "grapevine/grapevinelaw09.DescAges", spec := "descAges", inPlace := ["slices.overlaps[grapevine/api.Desc]"], unfollowed := true, recurses := true, apart := false }
def DescAgesSaid : Prop := descAgesRow.holds Try.pinned (OpenSpec.ofChange descAgesSpec)

/-- ITS FALSE NEIGHBOUR: 'it returns false'. Refute it at one input. -/
def descAgesWrong : ChangeSpec := { name := "descAges", fn := fun _ => fun
  | [d1, d2] => { results := [.lit (.bool false)], args := [d1, d2] }
  | _ => none }
def DescAgesWrongFalsely : Prop := descAgesRow.holds Try.pinned (OpenSpec.ofChange descAgesWrong)

/-- 'grapevinelaw09.DescApart': WHATEVER THE INPUT: true; the input reads as it did. -/
def descApartSpec : ChangeSpec := { name := "descApart", fn := fun _ => fun
  | [d1, d2, d3] => { results := [.lit (.bool true)], args := [d1, d2, d3] }
  | _ => none }
def descApartRow : OpenClaim := { program := "ytlkjlmmdllkdcaa", sum := "ac2a46472cf8c9ae7dd6617175814ef41d2e0fe9eda98e77f52ebe2bbac9c2f5", func := "grapevine/grapevinelaw09.DescApart", spec := "descApart", inPlace := ["slices.overlaps[grapevine/api.Desc]"], unfollowed := true, recurses := true, apart := false }
def DescApartSaid : Prop := descApartRow.holds Try.pinned (OpenSpec.ofChange descApartSpec)

/-- ITS FALSE NEIGHBOUR: 'it returns false'. Refute it at one input. -/
def descApartWrong : ChangeSpec := { name := "descApart", fn := fun _ => fun
  | [d1, d2, d3] => { results := [.lit (.bool false)], args := [d1, d2, d3] }
  | _ => none }
def DescApartWrongFalsely : Prop := descApartRow.holds Try.pinned (OpenSpec.ofChange descApartWrong)

/- THE SECOND FORM. 'bulk': how many values and letters a reading holds, each counted each time it is reached (what is shared counts as often as it is met; a slice's spare places count too). A statement '..UptoSaid' is the law's where the arguments, and the package variables that the reading takes, are together of bulk at most 1048576: NARROWER than '..Said'. Prove '..Said' where nothing that the law and all that it calls make is longer than what came in: it says more and counts as full. Else prove '..UptoSaid'. A law counts once. -/
mutual
def uptoBulk {H : Type} : DataW H → Nat
  | .lit (.string bytes) => bytes.length + 1
  | .lit _ => 1
  | .nil => 1
  | .ptr d => uptoBulk d + 1
  | .slice elems spare => uptoBulkAll elems + uptoBulkAll spare + 1
  | .agg parts => uptoBulkAll parts + 1
  | .iface _ d => uptoBulk d + 1
  | .map entries => uptoBulkEntries entries + 1
  | .held _ => 1
def uptoBulkAll {H : Type} : List (DataW H) → Nat
  | [] => 0
  | d :: r => uptoBulk d + uptoBulkAll r
def uptoBulkEntries {H : Type} : List (Lit × DataW H) → Nat
  | [] => 0
  | x :: r => uptoBulkEntry x + uptoBulkEntries r
def uptoBulkEntry {H : Type} : Lit × DataW H → Nat
  | (.string bytes, d) => bytes.length + uptoBulk d + 1
  | (_, d) => uptoBulk d + 1
 end
def uptoSmall : (H : Type) → List (DataW H) → Bool := fun _ ds => decide (uptoBulkAll ds ≤ 1048576)
def OpenSpec.upto (s : _root_.Go.ChangeSpec) : _root_.Go.OpenSpec := { _root_.Go.OpenSpec.ofChange s with cond := some uptoSmall }

/-- 'grapevinelaw09.DescTells', WHERE WHAT IT READS IS OF BULK AT MOST 1048576: true; the input reads as it did. -/
def descTellsUptoRow : OpenClaim := { program := "ytlkjlmmdllkdcaa", sum := "ac2a46472cf8c9ae7dd6617175814ef41d2e0fe9eda98e77f52ebe2bbac9c2f5", func := "grapevine/grapevinelaw09.DescTells", spec := "descTells", inPlace := ["slices.overlaps[grapevine/api.Desc]"], unfollowed := true, recurses := true, apart := false, narrowed := true }
def DescTellsUptoSaid : Prop := descTellsUptoRow.holds Try.pinned (OpenSpec.upto descTellsSpec)

/-- 'grapevinelaw09.DescBounds', WHERE WHAT IT READS IS OF BULK AT MOST 1048576: true; the input reads as it did. -/
def descBoundsUptoRow : OpenClaim := { program := "ytlkjlmmdllkdcaa", sum := "ac2a46472cf8c9ae7dd6617175814ef41d2e0fe9eda98e77f52ebe2bbac9c2f5", func := "grapevine/grapevinelaw09.DescBounds", spec := "descBounds", inPlace := ["slices.overlaps[grapevine/api.Desc]"], unfollowed := true, recurses := true, apart := false, narrowed := true }
def DescBoundsUptoSaid : Prop := descBoundsUptoRow.holds Try.pinned (OpenSpec.upto descBoundsSpec)

/-- 'grapevinelaw09.DescNewer', WHERE WHAT IT READS IS OF BULK AT MOST 1048576: true; the input reads as it did. -/
def descNewerUptoRow : OpenClaim := { program := "ytlkjlmmdllkdcaa", sum := "ac2a46472cf8c9ae7dd6617175814ef41d2e0fe9eda98e77f52ebe2bbac9c2f5", func := "grapevine/grapevinelaw09.DescNewer", spec := "descNewer", inPlace := ["slices.overlaps[grapevine/api.Desc]"], unfollowed := true, recurses := true, apart := false, narrowed := true }
def DescNewerUptoSaid : Prop := descNewerUptoRow.holds Try.pinned (OpenSpec.upto descNewerSpec)

/-- 'grapevinelaw09.DescAges', WHERE WHAT IT READS IS OF BULK AT MOST 1048576: true; the input reads as it did. -/
def descAgesUptoRow : OpenClaim := { program := "ytlkjlmmdllkdcaa", sum := "ac2a46472cf8c9ae7dd6617175814ef41d2e0fe9eda98e77f52ebe2bbac9c2f5", func := "grapevine/grapevinelaw09.DescAges", spec := "descAges", inPlace := ["slices.overlaps[grapevine/api.Desc]"], unfollowed := true, recurses := true, apart := false, narrowed := true }
def DescAgesUptoSaid : Prop := descAgesUptoRow.holds Try.pinned (OpenSpec.upto descAgesSpec)

/-- 'grapevinelaw09.DescApart', WHERE WHAT IT READS IS OF BULK AT MOST 1048576: true; the input reads as it did. -/
def descApartUptoRow : OpenClaim := { program := "ytlkjlmmdllkdcaa", sum := "ac2a46472cf8c9ae7dd6617175814ef41d2e0fe9eda98e77f52ebe2bbac9c2f5", func := "grapevine/grapevinelaw09.DescApart", spec := "descApart", inPlace := ["slices.overlaps[grapevine/api.Desc]"], unfollowed := true, recurses := true, apart := false, narrowed := true }
def DescApartUptoSaid : Prop := descApartUptoRow.holds Try.pinned (OpenSpec.upto descApartSpec)

end Rows
end Go.Proofs.Ytlkjlmmdllkdcaa
