/-
  DERIVED. GIVEN WITH THE SEED: THE CARDS: each row of YtofphdodihbijaaDoorRows.lean that lists a variable, with what it lists TIED to the program's text (the seventh form; the later family's looks); each row that meets fmt, with fmt's text TOLD by the authors' own Lean function (tested against real Go, not proved from fmt's source: count such statements apart). THE CARD IS WHAT COUNTS. Prove the row's statement (the work); the ties are given (YtofphdodihbijaaDoorTie.lean); close each card by the builder's one call (the guide's Derived/Test/ToyasCard.lean, 'card_holds'). Laid BY PROGRAM, IN A SANDBOX (cutbox-door.mjs). By AI agents, Wed Nov 11 2026. No macro, syntax, notation, axiom, sorry.
-/
import Derived.Test.YtofphdodihbijaaDoorRows
import GoSem.ClaimSeven
namespace Go.Proofs.YtofphdodihbijaaDoor
namespace Rows

/-- THE TIED CARD OF 'grapevinelaw04.SpanTells'. -/
def spanTellsCard : Claim7 := { stood := { row := spanTellsRow, standIns := [], harness := (true, "b85d949d053a507ad168e1c7aee4bcbca30a7260395995ac6bdc83e78354b411"), looks := false }, kinds := [], alts := [], laidByText := true, laidKinds := [.data], laidTests := true, laidLooks := .later }
def SpanTellsCardSaid : Prop := Claim7.holds Tryd.pinned (.plain (OpenSpec.ofChange spanTellsSpec)) spanTellsCard

/-- THE TIED CARD OF 'grapevinelaw04.SpanMeet'. -/
def spanMeetCard : Claim7 := { stood := { row := spanMeetRow, standIns := [], harness := (true, "b85d949d053a507ad168e1c7aee4bcbca30a7260395995ac6bdc83e78354b411"), looks := false }, kinds := [], alts := [], laidByText := true, laidKinds := [.data], laidTests := true, laidLooks := .later }
def SpanMeetCardSaid : Prop := Claim7.holds Tryd.pinned (.plain (OpenSpec.ofChange spanMeetSpec)) spanMeetCard

/-- THE TIED CARD OF 'grapevinelaw04.SpanCovers'. -/
def spanCoversCard : Claim7 := { stood := { row := spanCoversRow, standIns := [], harness := (true, "b85d949d053a507ad168e1c7aee4bcbca30a7260395995ac6bdc83e78354b411"), looks := false }, kinds := [], alts := [], laidByText := true, laidKinds := [.data], laidTests := true, laidLooks := .later }
def SpanCoversCardSaid : Prop := Claim7.holds Tryd.pinned (.plain (OpenSpec.ofChange spanCoversSpec)) spanCoversCard

/-- THE TIED CARD OF 'grapevinelaw04.SpanHull'. -/
def spanHullCard : Claim7 := { stood := { row := spanHullRow, standIns := [], harness := (true, "b85d949d053a507ad168e1c7aee4bcbca30a7260395995ac6bdc83e78354b411"), looks := false }, kinds := [], alts := [], laidByText := true, laidKinds := [.data], laidTests := true, laidLooks := .later }
def SpanHullCardSaid : Prop := Claim7.holds Tryd.pinned (.plain (OpenSpec.ofChange spanHullSpec)) spanHullCard

/-- THE TIED CARD OF 'grapevinelaw04.SpanLen'. -/
def spanLenCard : Claim7 := { stood := { row := spanLenRow, standIns := [], harness := (true, "b85d949d053a507ad168e1c7aee4bcbca30a7260395995ac6bdc83e78354b411"), looks := false }, kinds := [], alts := [], laidByText := true, laidKinds := [.data], laidTests := true, laidLooks := .later }
def SpanLenCardSaid : Prop := Claim7.holds Tryd.pinned (.plain (OpenSpec.ofChange spanLenSpec)) spanLenCard

/-- THE SECOND FORM's CARD OF 'grapevinelaw04.SpanTells'. -/
def spanTellsUptoCard : Claim7 := { stood := { row := spanTellsUptoRow, standIns := [], harness := (true, "b85d949d053a507ad168e1c7aee4bcbca30a7260395995ac6bdc83e78354b411"), looks := false }, kinds := [], alts := [], laidByText := true, laidKinds := [.data], laidTests := true, laidLooks := .later }
def SpanTellsUptoCardSaid : Prop := Claim7.holds Tryd.pinned (.plain (OpenSpec.upto spanTellsSpec)) spanTellsUptoCard

/-- THE SECOND FORM's CARD OF 'grapevinelaw04.SpanMeet'. -/
def spanMeetUptoCard : Claim7 := { stood := { row := spanMeetUptoRow, standIns := [], harness := (true, "b85d949d053a507ad168e1c7aee4bcbca30a7260395995ac6bdc83e78354b411"), looks := false }, kinds := [], alts := [], laidByText := true, laidKinds := [.data], laidTests := true, laidLooks := .later }
def SpanMeetUptoCardSaid : Prop := Claim7.holds Tryd.pinned (.plain (OpenSpec.upto spanMeetSpec)) spanMeetUptoCard

/-- THE SECOND FORM's CARD OF 'grapevinelaw04.SpanCovers'. -/
def spanCoversUptoCard : Claim7 := { stood := { row := spanCoversUptoRow, standIns := [], harness := (true, "b85d949d053a507ad168e1c7aee4bcbca30a7260395995ac6bdc83e78354b411"), looks := false }, kinds := [], alts := [], laidByText := true, laidKinds := [.data], laidTests := true, laidLooks := .later }
def SpanCoversUptoCardSaid : Prop := Claim7.holds Tryd.pinned (.plain (OpenSpec.upto spanCoversSpec)) spanCoversUptoCard

/-- THE SECOND FORM's CARD OF 'grapevinelaw04.SpanHull'. -/
def spanHullUptoCard : Claim7 := { stood := { row := spanHullUptoRow, standIns := [], harness := (true, "b85d949d053a507ad168e1c7aee4bcbca30a7260395995ac6bdc83e78354b411"), looks := false }, kinds := [], alts := [], laidByText := true, laidKinds := [.data], laidTests := true, laidLooks := .later }
def SpanHullUptoCardSaid : Prop := Claim7.holds Tryd.pinned (.plain (OpenSpec.upto spanHullSpec)) spanHullUptoCard

/-- THE SECOND FORM's CARD OF 'grapevinelaw04.SpanLen'. -/
def spanLenUptoCard : Claim7 := { stood := { row := spanLenUptoRow, standIns := [], harness := (true, "b85d949d053a507ad168e1c7aee4bcbca30a7260395995ac6bdc83e78354b411"), looks := false }, kinds := [], alts := [], laidByText := true, laidKinds := [.data], laidTests := true, laidLooks := .later }
def SpanLenUptoCardSaid : Prop := Claim7.holds Tryd.pinned (.plain (OpenSpec.upto spanLenSpec)) spanLenUptoCard
end Rows
end Go.Proofs.YtofphdodihbijaaDoor
