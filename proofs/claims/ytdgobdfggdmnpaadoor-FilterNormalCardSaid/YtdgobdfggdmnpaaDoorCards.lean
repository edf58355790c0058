/-
  DERIVED. GIVEN WITH THE SEED: THE CARDS: each row of YtdgobdfggdmnpaaDoorRows.lean that lists a variable, with what it lists TIED to the program's text (the seventh form; the later family's looks); each row that meets fmt, with fmt's text TOLD by the authors' own Lean function (tested against real Go, not proved from fmt's source: count such statements apart). THE CARD IS WHAT COUNTS. Prove the row's statement (the work); the ties are given (YtdgobdfggdmnpaaDoorTie.lean); close each card by the builder's one call (the guide's Derived/Test/ToyasCard.lean, 'card_holds'). Laid BY PROGRAM, IN A SANDBOX (cutbox-door.mjs). By AI agents, Wed Nov 11 2026. No macro, syntax, notation, axiom, sorry.
-/
import Derived.Test.YtdgobdfggdmnpaaDoorRows
import GoSem.ClaimSeven
namespace Go.Proofs.YtdgobdfggdmnpaaDoor
namespace Rows

/-- THE TIED CARD OF 'grapevinelaw05.FilterTells'. -/
def filterTellsCard : Claim7 := { stood := { row := filterTellsRow, standIns := [], harness := (true, "19997e51e653706512cb0cd90dc22691bcdbb0b51acab09aafffed039768fdb3"), looks := false }, kinds := [], alts := [], laidByText := true, laidKinds := [.data], laidTests := true, laidLooks := .later }
def FilterTellsCardSaid : Prop := Claim7.holds Tryd.pinned (.plain (OpenSpec.ofChange filterTellsSpec)) filterTellsCard

/-- THE TIED CARD OF 'grapevinelaw05.FilterNormal'. -/
def filterNormalCard : Claim7 := { stood := { row := filterNormalRow, standIns := [], harness := (true, "19997e51e653706512cb0cd90dc22691bcdbb0b51acab09aafffed039768fdb3"), looks := false }, kinds := [], alts := [], laidByText := true, laidKinds := [.data], laidTests := true, laidLooks := .later }
def FilterNormalCardSaid : Prop := Claim7.holds Tryd.pinned (.plain (OpenSpec.ofChange filterNormalSpec)) filterNormalCard

/-- THE TIED CARD OF 'grapevinelaw05.FilterMeet'. -/
def filterMeetCard : Claim7 := { stood := { row := filterMeetRow, standIns := [], harness := (true, "19997e51e653706512cb0cd90dc22691bcdbb0b51acab09aafffed039768fdb3"), looks := false }, kinds := [], alts := [], laidByText := true, laidKinds := [.data], laidTests := true, laidLooks := .later }
def FilterMeetCardSaid : Prop := Claim7.holds Tryd.pinned (.plain (OpenSpec.ofChange filterMeetSpec)) filterMeetCard

/-- THE TIED CARD OF 'grapevinelaw05.FilterCovers'. -/
def filterCoversCard : Claim7 := { stood := { row := filterCoversRow, standIns := [], harness := (true, "19997e51e653706512cb0cd90dc22691bcdbb0b51acab09aafffed039768fdb3"), looks := false }, kinds := [], alts := [], laidByText := true, laidKinds := [.data], laidTests := true, laidLooks := .later }
def FilterCoversCardSaid : Prop := Claim7.holds Tryd.pinned (.plain (OpenSpec.ofChange filterCoversSpec)) filterCoversCard

/-- THE TIED CARD OF 'grapevinelaw05.FilterAll'. -/
def filterAllCard : Claim7 := { stood := { row := filterAllRow, standIns := [], harness := (true, "19997e51e653706512cb0cd90dc22691bcdbb0b51acab09aafffed039768fdb3"), looks := false }, kinds := [], alts := [], laidByText := true, laidKinds := [.data], laidTests := true, laidLooks := .later }
def FilterAllCardSaid : Prop := Claim7.holds Tryd.pinned (.plain (OpenSpec.ofChange filterAllSpec)) filterAllCard

/-- THE TIED CARD OF 'grapevinelaw05.FilterSame'. -/
def filterSameCard : Claim7 := { stood := { row := filterSameRow, standIns := [], harness := (true, "19997e51e653706512cb0cd90dc22691bcdbb0b51acab09aafffed039768fdb3"), looks := false }, kinds := [], alts := [], laidByText := true, laidKinds := [.data], laidTests := true, laidLooks := .later }
def FilterSameCardSaid : Prop := Claim7.holds Tryd.pinned (.plain (OpenSpec.ofChange filterSameSpec)) filterSameCard

/-- THE SECOND FORM's CARD OF 'grapevinelaw05.FilterTells'. -/
def filterTellsUptoCard : Claim7 := { stood := { row := filterTellsUptoRow, standIns := [], harness := (true, "19997e51e653706512cb0cd90dc22691bcdbb0b51acab09aafffed039768fdb3"), looks := false }, kinds := [], alts := [], laidByText := true, laidKinds := [.data], laidTests := true, laidLooks := .later }
def FilterTellsUptoCardSaid : Prop := Claim7.holds Tryd.pinned (.plain (OpenSpec.upto filterTellsSpec)) filterTellsUptoCard

/-- THE SECOND FORM's CARD OF 'grapevinelaw05.FilterNormal'. -/
def filterNormalUptoCard : Claim7 := { stood := { row := filterNormalUptoRow, standIns := [], harness := (true, "19997e51e653706512cb0cd90dc22691bcdbb0b51acab09aafffed039768fdb3"), looks := false }, kinds := [], alts := [], laidByText := true, laidKinds := [.data], laidTests := true, laidLooks := .later }
def FilterNormalUptoCardSaid : Prop := Claim7.holds Tryd.pinned (.plain (OpenSpec.upto filterNormalSpec)) filterNormalUptoCard

/-- THE SECOND FORM's CARD OF 'grapevinelaw05.FilterMeet'. -/
def filterMeetUptoCard : Claim7 := { stood := { row := filterMeetUptoRow, standIns := [], harness := (true, "19997e51e653706512cb0cd90dc22691bcdbb0b51acab09aafffed039768fdb3"), looks := false }, kinds := [], alts := [], laidByText := true, laidKinds := [.data], laidTests := true, laidLooks := .later }
def FilterMeetUptoCardSaid : Prop := Claim7.holds Tryd.pinned (.plain (OpenSpec.upto filterMeetSpec)) filterMeetUptoCard

/-- THE SECOND FORM's CARD OF 'grapevinelaw05.FilterCovers'. -/
def filterCoversUptoCard : Claim7 := { stood := { row := filterCoversUptoRow, standIns := [], harness := (true, "19997e51e653706512cb0cd90dc22691bcdbb0b51acab09aafffed039768fdb3"), looks := false }, kinds := [], alts := [], laidByText := true, laidKinds := [.data], laidTests := true, laidLooks := .later }
def FilterCoversUptoCardSaid : Prop := Claim7.holds Tryd.pinned (.plain (OpenSpec.upto filterCoversSpec)) filterCoversUptoCard

/-- THE SECOND FORM's CARD OF 'grapevinelaw05.FilterAll'. -/
def filterAllUptoCard : Claim7 := { stood := { row := filterAllUptoRow, standIns := [], harness := (true, "19997e51e653706512cb0cd90dc22691bcdbb0b51acab09aafffed039768fdb3"), looks := false }, kinds := [], alts := [], laidByText := true, laidKinds := [.data], laidTests := true, laidLooks := .later }
def FilterAllUptoCardSaid : Prop := Claim7.holds Tryd.pinned (.plain (OpenSpec.upto filterAllSpec)) filterAllUptoCard

/-- THE SECOND FORM's CARD OF 'grapevinelaw05.FilterSame'. -/
def filterSameUptoCard : Claim7 := { stood := { row := filterSameUptoRow, standIns := [], harness := (true, "19997e51e653706512cb0cd90dc22691bcdbb0b51acab09aafffed039768fdb3"), looks := false }, kinds := [], alts := [], laidByText := true, laidKinds := [.data], laidTests := true, laidLooks := .later }
def FilterSameUptoCardSaid : Prop := Claim7.holds Tryd.pinned (.plain (OpenSpec.upto filterSameSpec)) filterSameUptoCard
end Rows
end Go.Proofs.YtdgobdfggdmnpaaDoor
