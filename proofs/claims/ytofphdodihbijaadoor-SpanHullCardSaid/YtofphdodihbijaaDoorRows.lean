/-
  NARROWER THAN 'FOR EVERY INPUT', by the rows' own cells (each row's printed sentence says how): SpanTells: laid · SpanMeet: laid · SpanCovers: laid · SpanHull: laid · SpanLen: laid.
  DERIVED. THE GIVEN ROWS OF THIS SEAT. 5 by the template 'for every input the law returns true; each argument reads behind the call as it read before'; 0 by the template 'total and deterministic' (their statements: YtofphdodihbijaaDoorTotals.lean).
  GIVEN WITH THE SEED: the statements are not yours to turn. If you find one false, say at which input.
  Laid BY PROGRAM, IN A SANDBOX (cutbox-rows.mjs): the forced cells as the released guide's own fill.sh prints them over the translation 0acf6e8d2bd3d568… (all of the seat's roots in one cut). By AI agents, Wed Nov 11 2026. No macro, syntax, notation, axiom, sorry.
-/
import Derived.Test.YtofphdodihbijaaDoorChecked
import GoSem.Claim
import GoSem.ClaimJoined
import GoSem.ClaimMapViews
import Derived.JoinedTies
import Derived.KernelRfl
namespace Go.Proofs.YtofphdodihbijaaDoor
/- THE CELL 'sum', in the pinned program and in every row, IS THE sha256 OF THE DUMP (.gsa) THAT YtofphdodihbijaaDoorProg.lean LOADS. Nothing in Lean hashes anything: it is a label: what it is worth is what the hold of that sum in a sandbox is worth. -/
noncomputable def Tryd.pinned : Pinned := { name := "ytofphdodihbijaadoor", sum := "0acf6e8d2bd3d568a06c358bc5ebb973ff6d8ecbbfde085a00e622cb097739af", checked := Tryd.checked }
namespace Rows
def none {H : Type} : Left H := { results := [], args := [] }

/- WHAT THE LISTED PACKAGE-LEVEL VARIABLES READ AS WHEN THE CALL BEGINS. Each datum BY PROGRAM (the guide's laid-datum.mjs) off the statement by which the dump's own 'gosem.cut.vars' lays the variable. In a bare row this is a premise. The card (YtofphdodihbijaaDoorCards.lean) ties it to the program's text. -/
def laid_grapevine_span_empty {H : Type} : DataW H := .agg [.lit (.int .i32 2147483647), .lit (.int .i32 (-2147483648))]

/-- 'grapevinelaw04.SpanTells': WHATEVER THE INPUT: true; the input reads as it did. -/
def spanTellsSpec : ChangeSpec := { name := "spanTells", fn := fun _ => fun
  | [d1, d2, d3] => { results := [.lit (.bool true)], args := [d1, d2, d3] }
  | _ => none }
def spanTellsRow : OpenClaim := { program := "ytofphdodihbijaadoor", sum := "0acf6e8d2bd3d568a06c358bc5ebb973ff6d8ecbbfde085a00e622cb097739af", func := "grapevine/grapevinelaw04.SpanTells", spec := "spanTells", named := ["grapevine/span.empty"], apart := false, laid := [("grapevine/span.empty", laid_grapevine_span_empty)] }
def SpanTellsSaid : Prop := spanTellsRow.holds Tryd.pinned (OpenSpec.ofChange spanTellsSpec)

/-- ITS FALSE NEIGHBOUR: 'it returns false'. Refute it at one input. -/
def spanTellsWrong : ChangeSpec := { name := "spanTells", fn := fun _ => fun
  | [d1, d2, d3] => { results := [.lit (.bool false)], args := [d1, d2, d3] }
  | _ => none }
def SpanTellsWrongFalsely : Prop := spanTellsRow.holds Tryd.pinned (OpenSpec.ofChange spanTellsWrong)

/-- 'grapevinelaw04.SpanMeet': WHATEVER THE INPUT: true; the input reads as it did. -/
def spanMeetSpec : ChangeSpec := { name := "spanMeet", fn := fun _ => fun
  | [d1, d2, d3, d4] => { results := [.lit (.bool true)], args := [d1, d2, d3, d4] }
  | _ => none }
def spanMeetRow : OpenClaim := { program := "ytofphdodihbijaadoor", sum := "0acf6e8d2bd3d568a06c358bc5ebb973ff6d8ecbbfde085a00e622cb097739af", func := "grapevine/grapevinelaw04.SpanMeet", spec := "spanMeet", unfollowed := true, recurses := true, named := ["grapevine/span.empty"], apart := false, laid := [("grapevine/span.empty", laid_grapevine_span_empty)] }
def SpanMeetSaid : Prop := spanMeetRow.holds Tryd.pinned (OpenSpec.ofChange spanMeetSpec)

/-- ITS FALSE NEIGHBOUR: 'it returns false'. Refute it at one input. -/
def spanMeetWrong : ChangeSpec := { name := "spanMeet", fn := fun _ => fun
  | [d1, d2, d3, d4] => { results := [.lit (.bool false)], args := [d1, d2, d3, d4] }
  | _ => none }
def SpanMeetWrongFalsely : Prop := spanMeetRow.holds Tryd.pinned (OpenSpec.ofChange spanMeetWrong)

/-- 'grapevinelaw04.SpanCovers': WHATEVER THE INPUT: true; the input reads as it did. -/
def spanCoversSpec : ChangeSpec := { name := "spanCovers", fn := fun _ => fun
  | [d1, d2, d3, d4] => { results := [.lit (.bool true)], args := [d1, d2, d3, d4] }
  | _ => none }
def spanCoversRow : OpenClaim := { program := "ytofphdodihbijaadoor", sum := "0acf6e8d2bd3d568a06c358bc5ebb973ff6d8ecbbfde085a00e622cb097739af", func := "grapevine/grapevinelaw04.SpanCovers", spec := "spanCovers", named := ["grapevine/span.empty"], apart := false, laid := [("grapevine/span.empty", laid_grapevine_span_empty)] }
def SpanCoversSaid : Prop := spanCoversRow.holds Tryd.pinned (OpenSpec.ofChange spanCoversSpec)

/-- ITS FALSE NEIGHBOUR: 'it returns false'. Refute it at one input. -/
def spanCoversWrong : ChangeSpec := { name := "spanCovers", fn := fun _ => fun
  | [d1, d2, d3, d4] => { results := [.lit (.bool false)], args := [d1, d2, d3, d4] }
  | _ => none }
def SpanCoversWrongFalsely : Prop := spanCoversRow.holds Tryd.pinned (OpenSpec.ofChange spanCoversWrong)

/-- 'grapevinelaw04.SpanHull': WHATEVER THE INPUT: true; the input reads as it did. -/
def spanHullSpec : ChangeSpec := { name := "spanHull", fn := fun _ => fun
  | [d1, d2, d3] => { results := [.lit (.bool true)], args := [d1, d2, d3] }
  | _ => none }
def spanHullRow : OpenClaim := { program := "ytofphdodihbijaadoor", sum := "0acf6e8d2bd3d568a06c358bc5ebb973ff6d8ecbbfde085a00e622cb097739af", func := "grapevine/grapevinelaw04.SpanHull", spec := "spanHull", named := ["grapevine/span.empty"], apart := false, laid := [("grapevine/span.empty", laid_grapevine_span_empty)] }
def SpanHullSaid : Prop := spanHullRow.holds Tryd.pinned (OpenSpec.ofChange spanHullSpec)

/-- ITS FALSE NEIGHBOUR: 'it returns false'. Refute it at one input. -/
def spanHullWrong : ChangeSpec := { name := "spanHull", fn := fun _ => fun
  | [d1, d2, d3] => { results := [.lit (.bool false)], args := [d1, d2, d3] }
  | _ => none }
def SpanHullWrongFalsely : Prop := spanHullRow.holds Tryd.pinned (OpenSpec.ofChange spanHullWrong)

/-- 'grapevinelaw04.SpanLen': WHATEVER THE INPUT: true; the input reads as it did. -/
def spanLenSpec : ChangeSpec := { name := "spanLen", fn := fun _ => fun
  | [d1, d2] => { results := [.lit (.bool true)], args := [d1, d2] }
  | _ => none }
def spanLenRow : OpenClaim := { program := "ytofphdodihbijaadoor", sum := "0acf6e8d2bd3d568a06c358bc5ebb973ff6d8ecbbfde085a00e622cb097739af", func := "grapevine/grapevinelaw04.SpanLen", spec := "spanLen", named := ["grapevine/span.empty"], apart := false, laid := [("grapevine/span.empty", laid_grapevine_span_empty)] }
def SpanLenSaid : Prop := spanLenRow.holds Tryd.pinned (OpenSpec.ofChange spanLenSpec)

/-- ITS FALSE NEIGHBOUR: 'it returns false'. Refute it at one input. -/
def spanLenWrong : ChangeSpec := { name := "spanLen", fn := fun _ => fun
  | [d1, d2] => { results := [.lit (.bool false)], args := [d1, d2] }
  | _ => none }
def SpanLenWrongFalsely : Prop := spanLenRow.holds Tryd.pinned (OpenSpec.ofChange spanLenWrong)

/- THE SECOND FORM. 'bulk': how many values and letters a reading holds, each counted each time it is reached (what is shared counts as often as it is met; a slice's spare places count too). A statement '..UptoSaid' is the law's where the arguments, and the package variables that the reading takes, are together of bulk at most 1048576: NARROWER than '..Said'. Prove '..Said' where nothing that the law and all that it calls make is longer than what came in: it says more and counts as full. Else prove '..UptoSaid'. A law counts once. -/
mutual
def uptoBulk {H : Type} : DataW H → Nat
  | .lit (.string bytes) => bytes.length + 1
  | .lit _ => 1
  | .nil => 1
  | .ptr d => uptoBulk d + 1
  | .slice elems spare => uptoBulkAll elems + uptoBulkAll spare + 1
  | .agg parts => uptoBulkAll parts + 1
  | .iface _ d => uptoBulk d + 1
  | .map entries => uptoBulkEntries entries + 1
  | .held _ => 1
def uptoBulkAll {H : Type} : List (DataW H) → Nat
  | [] => 0
  | d :: r => uptoBulk d + uptoBulkAll r
def uptoBulkEntries {H : Type} : List (Lit × DataW H) → Nat
  | [] => 0
  | x :: r => uptoBulkEntry x + uptoBulkEntries r
def uptoBulkEntry {H : Type} : Lit × DataW H → Nat
  | (.string bytes, d) => bytes.length + uptoBulk d + 1
  | (_, d) => uptoBulk d + 1
 end
def uptoSmall : (H : Type) → List (DataW H) → Bool := fun _ ds => decide (uptoBulkAll ds ≤ 1048576)
def OpenSpec.upto (s : _root_.Go.ChangeSpec) : _root_.Go.OpenSpec := { _root_.Go.OpenSpec.ofChange s with cond := some uptoSmall }

/-- 'grapevinelaw04.SpanTells', WHERE WHAT IT READS IS OF BULK AT MOST 1048576: true; the input reads as it did. -/
def spanTellsUptoRow : OpenClaim := { program := "ytofphdodihbijaadoor", sum := "0acf6e8d2bd3d568a06c358bc5ebb973ff6d8ecbbfde085a00e622cb097739af", func := "grapevine/grapevinelaw04.SpanTells", spec := "spanTells", named := ["grapevine/span.empty"], apart := false, laid := [("grapevine/span.empty", laid_grapevine_span_empty)], narrowed := true }
def SpanTellsUptoSaid : Prop := spanTellsUptoRow.holds Tryd.pinned (OpenSpec.upto spanTellsSpec)

/-- 'grapevinelaw04.SpanMeet', WHERE WHAT IT READS IS OF BULK AT MOST 1048576: true; the input reads as it did. -/
def spanMeetUptoRow : OpenClaim := { program := "ytofphdodihbijaadoor", sum := "0acf6e8d2bd3d568a06c358bc5ebb973ff6d8ecbbfde085a00e622cb097739af", func := "grapevine/grapevinelaw04.SpanMeet", spec := "spanMeet", unfollowed := true, recurses := true, named := ["grapevine/span.empty"], apart := false, laid := [("grapevine/span.empty", laid_grapevine_span_empty)], narrowed := true }
def SpanMeetUptoSaid : Prop := spanMeetUptoRow.holds Tryd.pinned (OpenSpec.upto spanMeetSpec)

/-- 'grapevinelaw04.SpanCovers', WHERE WHAT IT READS IS OF BULK AT MOST 1048576: true; the input reads as it did. -/
def spanCoversUptoRow : OpenClaim := { program := "ytofphdodihbijaadoor", sum := "0acf6e8d2bd3d568a06c358bc5ebb973ff6d8ecbbfde085a00e622cb097739af", func := "grapevine/grapevinelaw04.SpanCovers", spec := "spanCovers", named := ["grapevine/span.empty"], apart := false, laid := [("grapevine/span.empty", laid_grapevine_span_empty)], narrowed := true }
def SpanCoversUptoSaid : Prop := spanCoversUptoRow.holds Tryd.pinned (OpenSpec.upto spanCoversSpec)

/-- 'grapevinelaw04.SpanHull', WHERE WHAT IT READS IS OF BULK AT MOST 1048576: true; the input reads as it did. -/
def spanHullUptoRow : OpenClaim := { program := "ytofphdodihbijaadoor", sum := "0acf6e8d2bd3d568a06c358bc5ebb973ff6d8ecbbfde085a00e622cb097739af", func := "grapevine/grapevinelaw04.SpanHull", spec := "spanHull", named := ["grapevine/span.empty"], apart := false, laid := [("grapevine/span.empty", laid_grapevine_span_empty)], narrowed := true }
def SpanHullUptoSaid : Prop := spanHullUptoRow.holds Tryd.pinned (OpenSpec.upto spanHullSpec)

/-- 'grapevinelaw04.SpanLen', WHERE WHAT IT READS IS OF BULK AT MOST 1048576: true; the input reads as it did. -/
def spanLenUptoRow : OpenClaim := { program := "ytofphdodihbijaadoor", sum := "0acf6e8d2bd3d568a06c358bc5ebb973ff6d8ecbbfde085a00e622cb097739af", func := "grapevine/grapevinelaw04.SpanLen", spec := "spanLen", named := ["grapevine/span.empty"], apart := false, laid := [("grapevine/span.empty", laid_grapevine_span_empty)], narrowed := true }
def SpanLenUptoSaid : Prop := spanLenUptoRow.holds Tryd.pinned (OpenSpec.upto spanLenSpec)

end Rows
end Go.Proofs.YtofphdodihbijaaDoor
