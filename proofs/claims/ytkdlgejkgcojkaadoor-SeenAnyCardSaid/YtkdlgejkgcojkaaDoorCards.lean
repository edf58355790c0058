/-
  DERIVED. GIVEN WITH THE SEED: THE CARDS: each row of YtkdlgejkgcojkaaDoorRows.lean that lists a variable, with what it lists TIED to the program's text (the seventh form; the later family's looks); each row that meets fmt, with fmt's text TOLD by the authors' own Lean function (tested against real Go, not proved from fmt's source: count such statements apart). THE CARD IS WHAT COUNTS. Prove the row's statement (the work); the ties are given (YtkdlgejkgcojkaaDoorTie.lean); close each card by the builder's one call (the guide's Derived/Test/ToyasCard.lean, 'card_holds'). Laid BY PROGRAM, IN A SANDBOX (cutbox-door.mjs). By AI agents, Wed Nov 11 2026. No macro, syntax, notation, axiom, sorry.
-/
import Derived.Test.YtkdlgejkgcojkaaDoorRows
import GoSem.ClaimSeven
namespace Go.Proofs.YtkdlgejkgcojkaaDoor
namespace Rows

/-- THE TIED CARD OF 'grapevinelaw08.SeenTells'. -/
def seenTellsCard : Claim7 := { stood := { row := seenTellsRow, standIns := [], harness := (true, "52e3dd1ac2f22f397d70ab01b80f9e1042a6e8028229c80a6d5bfff5fa420b79"), looks := false }, kinds := [], alts := [], laidByText := true, laidKinds := [.data], laidTests := true, laidLooks := .later }
def SeenTellsCardSaid : Prop := Claim7.holds Tryd.pinned (.plain (OpenSpec.ofChange seenTellsSpec)) seenTellsCard

/-- THE TIED CARD OF 'grapevinelaw08.SeenOnce'. -/
def seenOnceCard : Claim7 := { stood := { row := seenOnceRow, standIns := [], harness := (true, "52e3dd1ac2f22f397d70ab01b80f9e1042a6e8028229c80a6d5bfff5fa420b79"), looks := false }, kinds := [], alts := [], laidByText := true, laidKinds := [.data], laidTests := true, laidLooks := .later }
def SeenOnceCardSaid : Prop := Claim7.holds Tryd.pinned (.plain (OpenSpec.ofChange seenOnceSpec)) seenOnceCard

/-- THE TIED CARD OF 'grapevinelaw08.SeenAny'. -/
def seenAnyCard : Claim7 := { stood := { row := seenAnyRow, standIns := [], harness := (true, "52e3dd1ac2f22f397d70ab01b80f9e1042a6e8028229c80a6d5bfff5fa420b79"), looks := false }, kinds := [], alts := [], laidByText := true, laidKinds := [.data], laidTests := true, laidLooks := .later }
def SeenAnyCardSaid : Prop := Claim7.holds Tryd.pinned (.plain (OpenSpec.ofChange seenAnySpec)) seenAnyCard

/-- THE TIED CARD OF 'grapevinelaw08.SeenWindow'. -/
def seenWindowCard : Claim7 := { stood := { row := seenWindowRow, standIns := [], harness := (true, "52e3dd1ac2f22f397d70ab01b80f9e1042a6e8028229c80a6d5bfff5fa420b79"), looks := false }, kinds := [], alts := [], laidByText := true, laidKinds := [.data], laidTests := true, laidLooks := .later }
def SeenWindowCardSaid : Prop := Claim7.holds Tryd.pinned (.plain (OpenSpec.ofChange seenWindowSpec)) seenWindowCard

/-- THE TIED CARD OF 'grapevinelaw08.SeenLives'. -/
def seenLivesCard : Claim7 := { stood := { row := seenLivesRow, standIns := [], harness := (true, "52e3dd1ac2f22f397d70ab01b80f9e1042a6e8028229c80a6d5bfff5fa420b79"), looks := false }, kinds := [], alts := [], laidByText := true, laidKinds := [.data], laidTests := true, laidLooks := .later }
def SeenLivesCardSaid : Prop := Claim7.holds Tryd.pinned (.plain (OpenSpec.ofChange seenLivesSpec)) seenLivesCard

/-- THE SECOND FORM's CARD OF 'grapevinelaw08.SeenTells'. -/
def seenTellsUptoCard : Claim7 := { stood := { row := seenTellsUptoRow, standIns := [], harness := (true, "52e3dd1ac2f22f397d70ab01b80f9e1042a6e8028229c80a6d5bfff5fa420b79"), looks := false }, kinds := [], alts := [], laidByText := true, laidKinds := [.data], laidTests := true, laidLooks := .later }
def SeenTellsUptoCardSaid : Prop := Claim7.holds Tryd.pinned (.plain (OpenSpec.upto seenTellsSpec)) seenTellsUptoCard

/-- THE SECOND FORM's CARD OF 'grapevinelaw08.SeenOnce'. -/
def seenOnceUptoCard : Claim7 := { stood := { row := seenOnceUptoRow, standIns := [], harness := (true, "52e3dd1ac2f22f397d70ab01b80f9e1042a6e8028229c80a6d5bfff5fa420b79"), looks := false }, kinds := [], alts := [], laidByText := true, laidKinds := [.data], laidTests := true, laidLooks := .later }
def SeenOnceUptoCardSaid : Prop := Claim7.holds Tryd.pinned (.plain (OpenSpec.upto seenOnceSpec)) seenOnceUptoCard

/-- THE SECOND FORM's CARD OF 'grapevinelaw08.SeenAny'. -/
def seenAnyUptoCard : Claim7 := { stood := { row := seenAnyUptoRow, standIns := [], harness := (true, "52e3dd1ac2f22f397d70ab01b80f9e1042a6e8028229c80a6d5bfff5fa420b79"), looks := false }, kinds := [], alts := [], laidByText := true, laidKinds := [.data], laidTests := true, laidLooks := .later }
def SeenAnyUptoCardSaid : Prop := Claim7.holds Tryd.pinned (.plain (OpenSpec.upto seenAnySpec)) seenAnyUptoCard

/-- THE SECOND FORM's CARD OF 'grapevinelaw08.SeenWindow'. -/
def seenWindowUptoCard : Claim7 := { stood := { row := seenWindowUptoRow, standIns := [], harness := (true, "52e3dd1ac2f22f397d70ab01b80f9e1042a6e8028229c80a6d5bfff5fa420b79"), looks := false }, kinds := [], alts := [], laidByText := true, laidKinds := [.data], laidTests := true, laidLooks := .later }
def SeenWindowUptoCardSaid : Prop := Claim7.holds Tryd.pinned (.plain (OpenSpec.upto seenWindowSpec)) seenWindowUptoCard

/-- THE SECOND FORM's CARD OF 'grapevinelaw08.SeenLives'. -/
def seenLivesUptoCard : Claim7 := { stood := { row := seenLivesUptoRow, standIns := [], harness := (true, "52e3dd1ac2f22f397d70ab01b80f9e1042a6e8028229c80a6d5bfff5fa420b79"), looks := false }, kinds := [], alts := [], laidByText := true, laidKinds := [.data], laidTests := true, laidLooks := .later }
def SeenLivesUptoCardSaid : Prop := Claim7.holds Tryd.pinned (.plain (OpenSpec.upto seenLivesSpec)) seenLivesUptoCard
end Rows
end Go.Proofs.YtkdlgejkgcojkaaDoor
