/-
  DERIVED. GIVEN WITH THE SEED: THE CARDS: each row of YtmajempbncllgaaDoorRows.lean that lists a variable, with what it lists TIED to the program's text (the seventh form; the later family's looks); each row that meets fmt, with fmt's text TOLD by the authors' own Lean function (tested against real Go, not proved from fmt's source: count such statements apart). THE CARD IS WHAT COUNTS. Prove the row's statement (the work); the ties are given (YtmajempbncllgaaDoorTie.lean); close each card by the builder's one call (the guide's Derived/Test/ToyasCard.lean, 'card_holds'). Laid BY PROGRAM, IN A SANDBOX (cutbox-door.mjs). By AI agents, Wed Nov 11 2026. No macro, syntax, notation, axiom, sorry.
-/
import Derived.Test.YtmajempbncllgaaDoorRows
import GoSem.ClaimSeven
namespace Go.Proofs.YtmajempbncllgaaDoor
namespace Rows

/-- THE TIED CARD OF 'grapevinelaw06.ScoreTells'. -/
def scoreTellsCard : Claim7 := { stood := { row := scoreTellsRow, standIns := [], harness := (true, "3618dcd428310555c4d0395d8a367d195a655fb49c5ce16f64d4443d656e6a4d"), looks := false }, kinds := [], alts := [], laidByText := true, laidKinds := [.data], laidTests := true, laidLooks := .later }
def ScoreTellsCardSaid : Prop := Claim7.holds Tryd.pinned (.plain (OpenSpec.ofChange scoreTellsSpec)) scoreTellsCard

/-- THE TIED CARD OF 'grapevinelaw06.ScoreTurn'. -/
def scoreTurnCard : Claim7 := { stood := { row := scoreTurnRow, standIns := [], harness := (true, "3618dcd428310555c4d0395d8a367d195a655fb49c5ce16f64d4443d656e6a4d"), looks := false }, kinds := [], alts := [], laidByText := true, laidKinds := [.data], laidTests := true, laidLooks := .later }
def ScoreTurnCardSaid : Prop := Claim7.holds Tryd.pinned (.plain (OpenSpec.ofChange scoreTurnSpec)) scoreTurnCard

/-- THE TIED CARD OF 'grapevinelaw06.ScoreGrows'. -/
def scoreGrowsCard : Claim7 := { stood := { row := scoreGrowsRow, standIns := [], harness := (true, "3618dcd428310555c4d0395d8a367d195a655fb49c5ce16f64d4443d656e6a4d"), looks := false }, kinds := [], alts := [], laidByText := true, laidKinds := [.data], laidTests := true, laidLooks := .later }
def ScoreGrowsCardSaid : Prop := Claim7.holds Tryd.pinned (.plain (OpenSpec.ofChange scoreGrowsSpec)) scoreGrowsCard

/-- THE TIED CARD OF 'grapevinelaw06.ScoreCounts'. -/
def scoreCountsCard : Claim7 := { stood := { row := scoreCountsRow, standIns := [], harness := (true, "3618dcd428310555c4d0395d8a367d195a655fb49c5ce16f64d4443d656e6a4d"), looks := false }, kinds := [], alts := [], laidByText := true, laidKinds := [.data], laidTests := true, laidLooks := .later }
def ScoreCountsCardSaid : Prop := Claim7.holds Tryd.pinned (.plain (OpenSpec.ofChange scoreCountsSpec)) scoreCountsCard

/-- THE TIED CARD OF 'grapevinelaw06.ScoreFull'. -/
def scoreFullCard : Claim7 := { stood := { row := scoreFullRow, standIns := [], harness := (true, "3618dcd428310555c4d0395d8a367d195a655fb49c5ce16f64d4443d656e6a4d"), looks := false }, kinds := [], alts := [], laidByText := true, laidKinds := [.data], laidTests := true, laidLooks := .later }
def ScoreFullCardSaid : Prop := Claim7.holds Tryd.pinned (.plain (OpenSpec.ofChange scoreFullSpec)) scoreFullCard

/-- THE TIED CARD OF 'grapevinelaw06.ScoreKeys'. -/
def scoreKeysCard : Claim7 := { stood := { row := scoreKeysRow, standIns := [], harness := (true, "3618dcd428310555c4d0395d8a367d195a655fb49c5ce16f64d4443d656e6a4d"), looks := false }, kinds := [], alts := [], laidByText := true, laidKinds := [.data], laidTests := true, laidLooks := .later }
def ScoreKeysCardSaid : Prop := Claim7.holds Tryd.pinned (.plain (OpenSpec.ofChange scoreKeysSpec)) scoreKeysCard

/-- THE SECOND FORM's CARD OF 'grapevinelaw06.ScoreTells'. -/
def scoreTellsUptoCard : Claim7 := { stood := { row := scoreTellsUptoRow, standIns := [], harness := (true, "3618dcd428310555c4d0395d8a367d195a655fb49c5ce16f64d4443d656e6a4d"), looks := false }, kinds := [], alts := [], laidByText := true, laidKinds := [.data], laidTests := true, laidLooks := .later }
def ScoreTellsUptoCardSaid : Prop := Claim7.holds Tryd.pinned (.plain (OpenSpec.upto scoreTellsSpec)) scoreTellsUptoCard

/-- THE SECOND FORM's CARD OF 'grapevinelaw06.ScoreTurn'. -/
def scoreTurnUptoCard : Claim7 := { stood := { row := scoreTurnUptoRow, standIns := [], harness := (true, "3618dcd428310555c4d0395d8a367d195a655fb49c5ce16f64d4443d656e6a4d"), looks := false }, kinds := [], alts := [], laidByText := true, laidKinds := [.data], laidTests := true, laidLooks := .later }
def ScoreTurnUptoCardSaid : Prop := Claim7.holds Tryd.pinned (.plain (OpenSpec.upto scoreTurnSpec)) scoreTurnUptoCard

/-- THE SECOND FORM's CARD OF 'grapevinelaw06.ScoreGrows'. -/
def scoreGrowsUptoCard : Claim7 := { stood := { row := scoreGrowsUptoRow, standIns := [], harness := (true, "3618dcd428310555c4d0395d8a367d195a655fb49c5ce16f64d4443d656e6a4d"), looks := false }, kinds := [], alts := [], laidByText := true, laidKinds := [.data], laidTests := true, laidLooks := .later }
def ScoreGrowsUptoCardSaid : Prop := Claim7.holds Tryd.pinned (.plain (OpenSpec.upto scoreGrowsSpec)) scoreGrowsUptoCard

/-- THE SECOND FORM's CARD OF 'grapevinelaw06.ScoreCounts'. -/
def scoreCountsUptoCard : Claim7 := { stood := { row := scoreCountsUptoRow, standIns := [], harness := (true, "3618dcd428310555c4d0395d8a367d195a655fb49c5ce16f64d4443d656e6a4d"), looks := false }, kinds := [], alts := [], laidByText := true, laidKinds := [.data], laidTests := true, laidLooks := .later }
def ScoreCountsUptoCardSaid : Prop := Claim7.holds Tryd.pinned (.plain (OpenSpec.upto scoreCountsSpec)) scoreCountsUptoCard

/-- THE SECOND FORM's CARD OF 'grapevinelaw06.ScoreFull'. -/
def scoreFullUptoCard : Claim7 := { stood := { row := scoreFullUptoRow, standIns := [], harness := (true, "3618dcd428310555c4d0395d8a367d195a655fb49c5ce16f64d4443d656e6a4d"), looks := false }, kinds := [], alts := [], laidByText := true, laidKinds := [.data], laidTests := true, laidLooks := .later }
def ScoreFullUptoCardSaid : Prop := Claim7.holds Tryd.pinned (.plain (OpenSpec.upto scoreFullSpec)) scoreFullUptoCard

/-- THE SECOND FORM's CARD OF 'grapevinelaw06.ScoreKeys'. -/
def scoreKeysUptoCard : Claim7 := { stood := { row := scoreKeysUptoRow, standIns := [], harness := (true, "3618dcd428310555c4d0395d8a367d195a655fb49c5ce16f64d4443d656e6a4d"), looks := false }, kinds := [], alts := [], laidByText := true, laidKinds := [.data], laidTests := true, laidLooks := .later }
def ScoreKeysUptoCardSaid : Prop := Claim7.holds Tryd.pinned (.plain (OpenSpec.upto scoreKeysSpec)) scoreKeysUptoCard
end Rows
end Go.Proofs.YtmajempbncllgaaDoor
