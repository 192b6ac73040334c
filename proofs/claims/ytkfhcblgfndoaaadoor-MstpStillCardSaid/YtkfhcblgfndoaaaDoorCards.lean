/-
  DERIVED. GIVEN WITH THE SEED: THE CARDS: each row of YtkfhcblgfndoaaaDoorRows.lean that lists a variable, with what it lists TIED to the program's text (the seventh form; the later family's looks); each row that meets fmt, with fmt's text TOLD by the authors' own Lean function (tested against real Go, not proved from fmt's source: count such statements apart). THE CARD IS WHAT COUNTS. Prove the row's statement (the work); the ties are given (YtkfhcblgfndoaaaDoorTie.lean); close each card by the builder's one call (the guide's Derived/Test/ToyasCard.lean, 'card_holds'). Laid BY PROGRAM, IN A SANDBOX (cutbox-door.mjs). By AI agents, Wed Nov 11 2026. No macro, syntax, notation, axiom, sorry.
-/
import Derived.Test.YtkfhcblgfndoaaaDoorRows
import GoSem.ClaimSeven
namespace Go.Proofs.YtkfhcblgfndoaaaDoor
namespace Rows

/-- THE TIED CARD OF 'switchyardlaw.MstpReads'. -/
def mstpReadsCard : Claim7 := { stood := { row := mstpReadsRow, standIns := [], harness := (true, "9efb442b691ca3665ad631551a249b776d496da6459b2d7ab8bafa8a2f498db6"), looks := true }, kinds := [], alts := [], laidByText := true, laidKinds := [.data, .handle, .pinned], laidTests := true, laidLooks := .later }
def MstpReadsCardSaid : Prop := Claim7.holds Tryd.pinned (.plain (OpenSpec.ofChange mstpReadsSpec)) mstpReadsCard

/-- THE TIED CARD OF 'switchyardkeep.MstpStill'. -/
def mstpStillCard : Claim7 := { stood := { row := mstpStillRow, standIns := [], harness := (true, "9efb442b691ca3665ad631551a249b776d496da6459b2d7ab8bafa8a2f498db6"), looks := true }, kinds := [], alts := [], laidByText := true, laidKinds := [.data, .pinned], laidTests := true, laidLooks := .later }
def MstpStillCardSaid : Prop := Claim7.holds Tryd.pinned (.plain (OpenSpec.ofChange mstpStillSpec)) mstpStillCard

/-- THE SECOND FORM's CARD OF 'switchyardlaw.MstpReads'. -/
def mstpReadsUptoCard : Claim7 := { stood := { row := mstpReadsUptoRow, standIns := [], harness := (true, "9efb442b691ca3665ad631551a249b776d496da6459b2d7ab8bafa8a2f498db6"), looks := true }, kinds := [], alts := [], laidByText := true, laidKinds := [.data, .handle, .pinned], laidTests := true, laidLooks := .later }
def MstpReadsUptoCardSaid : Prop := Claim7.holds Tryd.pinned (.plain (OpenSpec.upto mstpReadsSpec)) mstpReadsUptoCard

/-- THE SECOND FORM's CARD OF 'switchyardkeep.MstpStill'. -/
def mstpStillUptoCard : Claim7 := { stood := { row := mstpStillUptoRow, standIns := [], harness := (true, "9efb442b691ca3665ad631551a249b776d496da6459b2d7ab8bafa8a2f498db6"), looks := true }, kinds := [], alts := [], laidByText := true, laidKinds := [.data, .pinned], laidTests := true, laidLooks := .later }
def MstpStillUptoCardSaid : Prop := Claim7.holds Tryd.pinned (.plain (OpenSpec.upto mstpStillSpec)) mstpStillUptoCard
end Rows
end Go.Proofs.YtkfhcblgfndoaaaDoor
