/- Layer 5: the reference's Normal. -/
import Derived.Test.YtmajempbncllgaaDoorFl3
namespace Go.Proofs.YtmajempbncllgaaDoor
open Go.RowKit
set_option linter.unusedVariables false
def normF (ps fs : List (Int × Int)) : List (Int × Int) := if fs.length = 0 then [] else if fs.length = ps.length then meetF fs ps else []
def normE (ps fs : List (Int × Int)) : Int := if fs.length = 0 then 0 else if fs.length = ps.length then 0 else 50
def GaveN (ps : List (Int × Int)) (k : Int) (w : World) (e : Ending) (w' : World) : Prop := ∃ A c, e = .returned (.tuple #[.slice A ps.length c, .int .i64 k]) ∧ Sp w' w'.heap.size A ps.length c ps ∧ Below w.heap.size w w'
end Go.Proofs.YtmajempbncllgaaDoor
