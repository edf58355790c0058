import Derived.Test.YtoepfdmloeiobaaDoorRows
import Derived.Test.YtoepfdmloeiobaaDoorGv
namespace Go.Proofs.YtoepfdmloeiobaaDoor
open Go.RowKit
set_option linter.unusedVariables false
theorem same_any (A : Option Addr) (n c k : Nat) (l : List UInt8) (A' : Option Addr) (n' c' k' : Nat) (l' : List UInt8) (w : World) (h : Sl w k A n c l) (h' : Sl w k' A' n' c' l') :
    Calls Tryd.prog 14 #[.slice A n c, .slice A' n' c'] w fun e w' => e = .returned (.bool (l == l')) ∧ w = w' := by
  have e1 := run_str (P := Tryd.prog) 23 9 5 Tryd.underlying23 Tryd.underlying5 Tryd.underlying9 h
  have e2 := run_str (P := Tryd.prog) 23 9 5 Tryd.underlying23 Tryd.underlying5 Tryd.underlying9 h'
  go_enter Tryd.func14, Tryd.ntmps14
  go_wp2
  go_ret
  exact ⟨rfl, rfl⟩
end Go.Proofs.YtoepfdmloeiobaaDoor
