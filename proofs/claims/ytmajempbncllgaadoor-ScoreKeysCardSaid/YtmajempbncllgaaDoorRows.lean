/-
  NARROWER THAN 'FOR EVERY INPUT', by the rows' own cells (each row's printed sentence says how): ScoreTells: laid · ScoreTurn: laid · ScoreGrows: laid · ScoreCounts: laid · ScoreFull: laid · ScoreKeys: laid.
  DERIVED. THE GIVEN ROWS OF THIS SEAT. 6 by the template 'for every input the law returns true; each argument reads behind the call as it read before'; 0 by the template 'total and deterministic' (their statements: YtmajempbncllgaaDoorTotals.lean).
  GIVEN WITH THE SEED: the statements are not yours to turn. If you find one false, say at which input.
  Laid BY PROGRAM, IN A SANDBOX (cutbox-rows.mjs): the forced cells as the released guide's own fill.sh prints them over the translation a0b07504d71bb48c… (all of the seat's roots in one cut). By AI agents, Wed Nov 11 2026. No macro, syntax, notation, axiom, sorry.
-/
import Derived.Test.YtmajempbncllgaaDoorChecked
import GoSem.Claim
import GoSem.ClaimJoined
import GoSem.ClaimMapViews
import Derived.JoinedTies
import Derived.KernelRfl
namespace Go.Proofs.YtmajempbncllgaaDoor
/- THE CELL 'sum', in the pinned program and in every row, IS THE sha256 OF THE DUMP (.gsa) THAT YtmajempbncllgaaDoorProg.lean LOADS. Nothing in Lean hashes anything: it is a label: what it is worth is what the hold of that sum in a sandbox is worth. -/
noncomputable def Tryd.pinned : Pinned := { name := "ytmajempbncllgaadoor", sum := "a0b07504d71bb48c39f2788e689d75e17377b824473cb20cd4732f3ecbfc5a23", checked := Tryd.checked }
namespace Rows
def none {H : Type} : Left H := { results := [], args := [] }

/- WHAT THE LISTED PACKAGE-LEVEL VARIABLES READ AS WHEN THE CALL BEGINS. Each datum BY PROGRAM (the guide's laid-datum.mjs) off the statement by which the dump's own 'gosem.cut.vars' lays the variable. In a bare row this is a premise. The card (YtmajempbncllgaaDoorCards.lean) ties it to the program's text. -/
def laid_grapevine_span_empty {H : Type} : DataW H := .agg [.lit (.int .i32 2147483647), .lit (.int .i32 (-2147483648))]

/-- 'grapevinelaw06.ScoreTells': WHATEVER THE INPUT: true; the input reads as it did. -/
def scoreTellsSpec : ChangeSpec := { name := "scoreTells", fn := fun _ => fun
  | [d1, d2, d3] => { results := [.lit (.bool true)], args := [d1, d2, d3] }
  | _ => none }
def scoreTellsRow : OpenClaim := { program := "ytmajempbncllgaadoor", sum := "a0b07504d71bb48c39f2788e689d75e17377b824473cb20cd4732f3ecbfc5a23", func := "grapevine/grapevinelaw06.ScoreTells", spec := "scoreTells", unfollowed := true, recurses := true, named := ["grapevine/span.empty"], apart := false, laid := [("grapevine/span.empty", laid_grapevine_span_empty)] }
def ScoreTellsSaid : Prop := scoreTellsRow.holds Tryd.pinned (OpenSpec.ofChange scoreTellsSpec)

/-- ITS FALSE NEIGHBOUR: 'it returns false'. Refute it at one input. -/
def scoreTellsWrong : ChangeSpec := { name := "scoreTells", fn := fun _ => fun
  | [d1, d2, d3] => { results := [.lit (.bool false)], args := [d1, d2, d3] }
  | _ => none }
def ScoreTellsWrongFalsely : Prop := scoreTellsRow.holds Tryd.pinned (OpenSpec.ofChange scoreTellsWrong)

/-- 'grapevinelaw06.ScoreTurn': WHATEVER THE INPUT: true; the input reads as it did. -/
def scoreTurnSpec : ChangeSpec := { name := "scoreTurn", fn := fun _ => fun
  | [d1, d2] => { results := [.lit (.bool true)], args := [d1, d2] }
  | _ => none }
def scoreTurnRow : OpenClaim := { program := "ytmajempbncllgaadoor", sum := "a0b07504d71bb48c39f2788e689d75e17377b824473cb20cd4732f3ecbfc5a23", func := "grapevine/grapevinelaw06.ScoreTurn", spec := "scoreTurn", unfollowed := true, recurses := true, named := ["grapevine/span.empty"], apart := false, laid := [("grapevine/span.empty", laid_grapevine_span_empty)] }
def ScoreTurnSaid : Prop := scoreTurnRow.holds Tryd.pinned (OpenSpec.ofChange scoreTurnSpec)

/-- ITS FALSE NEIGHBOUR: 'it returns false'. Refute it at one input. -/
def scoreTurnWrong : ChangeSpec := { name := "scoreTurn", fn := fun _ => fun
  | [d1, d2] => { results := [.lit (.bool false)], args := [d1, d2] }
  | _ => none }
def ScoreTurnWrongFalsely : Prop := scoreTurnRow.holds Tryd.pinned (OpenSpec.ofChange scoreTurnWrong)

/-- 'grapevinelaw06.ScoreGrows': WHATEVER THE INPUT: true; the input reads as it did. -/
def scoreGrowsSpec : ChangeSpec := { name := "scoreGrows", fn := fun _ => fun
  | [d1, d2, d3] => { results := [.lit (.bool true)], args := [d1, d2, d3] }
  | _ => none }
def scoreGrowsRow : OpenClaim := { program := "ytmajempbncllgaadoor", sum := "a0b07504d71bb48c39f2788e689d75e17377b824473cb20cd4732f3ecbfc5a23", func := "grapevine/grapevinelaw06.ScoreGrows", spec := "scoreGrows", unfollowed := true, recurses := true, named := ["grapevine/span.empty"], apart := false, laid := [("grapevine/span.empty", laid_grapevine_span_empty)] }
def ScoreGrowsSaid : Prop := scoreGrowsRow.holds Tryd.pinned (OpenSpec.ofChange scoreGrowsSpec)

/-- ITS FALSE NEIGHBOUR: 'it returns false'. Refute it at one input. -/
def scoreGrowsWrong : ChangeSpec := { name := "scoreGrows", fn := fun _ => fun
  | [d1, d2, d3] => { results := [.lit (.bool false)], args := [d1, d2, d3] }
  | _ => none }
def ScoreGrowsWrongFalsely : Prop := scoreGrowsRow.holds Tryd.pinned (OpenSpec.ofChange scoreGrowsWrong)

/-- 'grapevinelaw06.ScoreCounts': WHATEVER THE INPUT: true; the input reads as it did. -/
def scoreCountsSpec : ChangeSpec := { name := "scoreCounts", fn := fun _ => fun
  | [d1, d2, d3] => { results := [.lit (.bool true)], args := [d1, d2, d3] }
  | _ => none }
def scoreCountsRow : OpenClaim := { program := "ytmajempbncllgaadoor", sum := "a0b07504d71bb48c39f2788e689d75e17377b824473cb20cd4732f3ecbfc5a23", func := "grapevine/grapevinelaw06.ScoreCounts", spec := "scoreCounts", unfollowed := true, recurses := true, named := ["grapevine/span.empty"], apart := false, laid := [("grapevine/span.empty", laid_grapevine_span_empty)] }
def ScoreCountsSaid : Prop := scoreCountsRow.holds Tryd.pinned (OpenSpec.ofChange scoreCountsSpec)

/-- ITS FALSE NEIGHBOUR: 'it returns false'. Refute it at one input. -/
def scoreCountsWrong : ChangeSpec := { name := "scoreCounts", fn := fun _ => fun
  | [d1, d2, d3] => { results := [.lit (.bool false)], args := [d1, d2, d3] }
  | _ => none }
def ScoreCountsWrongFalsely : Prop := scoreCountsRow.holds Tryd.pinned (OpenSpec.ofChange scoreCountsWrong)

/-- 'grapevinelaw06.ScoreFull': WHATEVER THE INPUT: true; the input reads as it did. -/
def scoreFullSpec : ChangeSpec := { name := "scoreFull", fn := fun _ => fun
  | [d1, d2, d3] => { results := [.lit (.bool true)], args := [d1, d2, d3] }
  | _ => none }
def scoreFullRow : OpenClaim := { program := "ytmajempbncllgaadoor", sum := "a0b07504d71bb48c39f2788e689d75e17377b824473cb20cd4732f3ecbfc5a23", func := "grapevine/grapevinelaw06.ScoreFull", spec := "scoreFull", unfollowed := true, recurses := true, named := ["grapevine/span.empty"], apart := false, laid := [("grapevine/span.empty", laid_grapevine_span_empty)] }
def ScoreFullSaid : Prop := scoreFullRow.holds Tryd.pinned (OpenSpec.ofChange scoreFullSpec)

/-- ITS FALSE NEIGHBOUR: 'it returns false'. Refute it at one input. -/
def scoreFullWrong : ChangeSpec := { name := "scoreFull", fn := fun _ => fun
  | [d1, d2, d3] => { results := [.lit (.bool false)], args := [d1, d2, d3] }
  | _ => none }
def ScoreFullWrongFalsely : Prop := scoreFullRow.holds Tryd.pinned (OpenSpec.ofChange scoreFullWrong)

/-- 'grapevinelaw06.ScoreKeys': WHATEVER THE INPUT: true; the input reads as it did. -/
def scoreKeysSpec : ChangeSpec := { name := "scoreKeys", fn := fun _ => fun
  | [d1, d2, d3] => { results := [.lit (.bool true)], args := [d1, d2, d3] }
  | _ => none }
def scoreKeysRow : OpenClaim := { program := "ytmajempbncllgaadoor", sum := "a0b07504d71bb48c39f2788e689d75e17377b824473cb20cd4732f3ecbfc5a23", func := "grapevine/grapevinelaw06.ScoreKeys", spec := "scoreKeys", unfollowed := true, recurses := true, named := ["grapevine/span.empty"], apart := false, laid := [("grapevine/span.empty", laid_grapevine_span_empty)] }
def ScoreKeysSaid : Prop := scoreKeysRow.holds Tryd.pinned (OpenSpec.ofChange scoreKeysSpec)

/-- ITS FALSE NEIGHBOUR: 'it returns false'. Refute it at one input. -/
def scoreKeysWrong : ChangeSpec := { name := "scoreKeys", fn := fun _ => fun
  | [d1, d2, d3] => { results := [.lit (.bool false)], args := [d1, d2, d3] }
  | _ => none }
def ScoreKeysWrongFalsely : Prop := scoreKeysRow.holds Tryd.pinned (OpenSpec.ofChange scoreKeysWrong)

/- THE SECOND FORM. 'bulk': how many values and letters a reading holds, each counted each time it is reached (what is shared counts as often as it is met; a slice's spare places count too). A statement '..UptoSaid' is the law's where the arguments, and the package variables that the reading takes, are together of bulk at most 1048576: NARROWER than '..Said'. Prove '..Said' where nothing that the law and all that it calls make is longer than what came in: it says more and counts as full. Else prove '..UptoSaid'. A law counts once. -/
mutual
def uptoBulk {H : Type} : DataW H → Nat
  | .lit (.string bytes) => bytes.length + 1
  | .lit _ => 1
  | .nil => 1
  | .ptr d => uptoBulk d + 1
  | .slice elems spare => uptoBulkAll elems + uptoBulkAll spare + 1
  | .agg parts => uptoBulkAll parts + 1
  | .iface _ d => uptoBulk d + 1
  | .map entries => uptoBulkEntries entries + 1
  | .held _ => 1
def uptoBulkAll {H : Type} : List (DataW H) → Nat
  | [] => 0
  | d :: r => uptoBulk d + uptoBulkAll r
def uptoBulkEntries {H : Type} : List (Lit × DataW H) → Nat
  | [] => 0
  | x :: r => uptoBulkEntry x + uptoBulkEntries r
def uptoBulkEntry {H : Type} : Lit × DataW H → Nat
  | (.string bytes, d) => bytes.length + uptoBulk d + 1
  | (_, d) => uptoBulk d + 1
 end
def uptoSmall : (H : Type) → List (DataW H) → Bool := fun _ ds => decide (uptoBulkAll ds ≤ 1048576)
def OpenSpec.upto (s : _root_.Go.ChangeSpec) : _root_.Go.OpenSpec := { _root_.Go.OpenSpec.ofChange s with cond := some uptoSmall }

/-- 'grapevinelaw06.ScoreTells', WHERE WHAT IT READS IS OF BULK AT MOST 1048576: true; the input reads as it did. -/
def scoreTellsUptoRow : OpenClaim := { program := "ytmajempbncllgaadoor", sum := "a0b07504d71bb48c39f2788e689d75e17377b824473cb20cd4732f3ecbfc5a23", func := "grapevine/grapevinelaw06.ScoreTells", spec := "scoreTells", unfollowed := true, recurses := true, named := ["grapevine/span.empty"], apart := false, laid := [("grapevine/span.empty", laid_grapevine_span_empty)], narrowed := true }
def ScoreTellsUptoSaid : Prop := scoreTellsUptoRow.holds Tryd.pinned (OpenSpec.upto scoreTellsSpec)

/-- 'grapevinelaw06.ScoreTurn', WHERE WHAT IT READS IS OF BULK AT MOST 1048576: true; the input reads as it did. -/
def scoreTurnUptoRow : OpenClaim := { program := "ytmajempbncllgaadoor", sum := "a0b07504d71bb48c39f2788e689d75e17377b824473cb20cd4732f3ecbfc5a23", func := "grapevine/grapevinelaw06.ScoreTurn", spec := "scoreTurn", unfollowed := true, recurses := true, named := ["grapevine/span.empty"], apart := false, laid := [("grapevine/span.empty", laid_grapevine_span_empty)], narrowed := true }
def ScoreTurnUptoSaid : Prop := scoreTurnUptoRow.holds Tryd.pinned (OpenSpec.upto scoreTurnSpec)

/-- 'grapevinelaw06.ScoreGrows', WHERE WHAT IT READS IS OF BULK AT MOST 1048576: true; the input reads as it did. -/
def scoreGrowsUptoRow : OpenClaim := { program := "ytmajempbncllgaadoor", sum := "a0b07504d71bb48c39f2788e689d75e17377b824473cb20cd4732f3ecbfc5a23", func := "grapevine/grapevinelaw06.ScoreGrows", spec := "scoreGrows", unfollowed := true, recurses := true, named := ["grapevine/span.empty"], apart := false, laid := [("grapevine/span.empty", laid_grapevine_span_empty)], narrowed := true }
def ScoreGrowsUptoSaid : Prop := scoreGrowsUptoRow.holds Tryd.pinned (OpenSpec.upto scoreGrowsSpec)

/-- 'grapevinelaw06.ScoreCounts', WHERE WHAT IT READS IS OF BULK AT MOST 1048576: true; the input reads as it did. -/
def scoreCountsUptoRow : OpenClaim := { program := "ytmajempbncllgaadoor", sum := "a0b07504d71bb48c39f2788e689d75e17377b824473cb20cd4732f3ecbfc5a23", func := "grapevine/grapevinelaw06.ScoreCounts", spec := "scoreCounts", unfollowed := true, recurses := true, named := ["grapevine/span.empty"], apart := false, laid := [("grapevine/span.empty", laid_grapevine_span_empty)], narrowed := true }
def ScoreCountsUptoSaid : Prop := scoreCountsUptoRow.holds Tryd.pinned (OpenSpec.upto scoreCountsSpec)

/-- 'grapevinelaw06.ScoreFull', WHERE WHAT IT READS IS OF BULK AT MOST 1048576: true; the input reads as it did. -/
def scoreFullUptoRow : OpenClaim := { program := "ytmajempbncllgaadoor", sum := "a0b07504d71bb48c39f2788e689d75e17377b824473cb20cd4732f3ecbfc5a23", func := "grapevine/grapevinelaw06.ScoreFull", spec := "scoreFull", unfollowed := true, recurses := true, named := ["grapevine/span.empty"], apart := false, laid := [("grapevine/span.empty", laid_grapevine_span_empty)], narrowed := true }
def ScoreFullUptoSaid : Prop := scoreFullUptoRow.holds Tryd.pinned (OpenSpec.upto scoreFullSpec)

/-- 'grapevinelaw06.ScoreKeys', WHERE WHAT IT READS IS OF BULK AT MOST 1048576: true; the input reads as it did. -/
def scoreKeysUptoRow : OpenClaim := { program := "ytmajempbncllgaadoor", sum := "a0b07504d71bb48c39f2788e689d75e17377b824473cb20cd4732f3ecbfc5a23", func := "grapevine/grapevinelaw06.ScoreKeys", spec := "scoreKeys", unfollowed := true, recurses := true, named := ["grapevine/span.empty"], apart := false, laid := [("grapevine/span.empty", laid_grapevine_span_empty)], narrowed := true }
def ScoreKeysUptoSaid : Prop := scoreKeysUptoRow.holds Tryd.pinned (OpenSpec.upto scoreKeysSpec)

end Rows
end Go.Proofs.YtmajempbncllgaaDoor
