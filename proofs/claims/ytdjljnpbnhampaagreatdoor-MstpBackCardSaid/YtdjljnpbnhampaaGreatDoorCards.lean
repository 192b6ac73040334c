/-
  DERIVED. GIVEN WITH THE SEED: THE CARDS: each row of YtdjljnpbnhampaaGreatDoorRows.lean that lists a variable, with what it lists TIED to the program's text (the seventh form; the later family's looks); each row that meets fmt, with fmt's text TOLD by the authors' own Lean function (tested against real Go, not proved from fmt's source: count such statements apart). THE CARD IS WHAT COUNTS. Prove the row's statement (the work); the ties are given (YtdjljnpbnhampaaGreatDoorTie.lean); close each card by the builder's one call (the guide's Derived/Test/ToyasCard.lean, 'card_holds'). Laid BY PROGRAM, IN A SANDBOX (cutbox-door.mjs). By AI agents, Wed Nov 11 2026. No macro, syntax, notation, axiom, sorry.
-/
import Derived.Test.YtdjljnpbnhampaaGreatDoorRows
import GoSem.ClaimSeven
namespace Go.Proofs.YtdjljnpbnhampaaGreatDoor
namespace Rows

/-- THE TIED CARD OF 'switchyardkeep.MstpBack'. -/
def mstpBackCard : Claim7 := { stood := { row := mstpBackRow, standIns := [], harness := (true, "e44fc36d309bfc94964d75738afba0e6415908417786a738b7965527d204e0f5"), looks := true }, kinds := [], alts := [], laidByText := true, laidKinds := [.data, .handle, .pinned], laidTests := true, laidLooks := .later }
def MstpBackCardSaid : Prop := Claim7.holds Tryz.pinned (.plain (OpenSpec.ofChange mstpBackSpec)) mstpBackCard

/-- THE SECOND FORM's CARD OF 'switchyardkeep.MstpBack'. -/
def mstpBackUptoCard : Claim7 := { stood := { row := mstpBackUptoRow, standIns := [], harness := (true, "e44fc36d309bfc94964d75738afba0e6415908417786a738b7965527d204e0f5"), looks := true }, kinds := [], alts := [], laidByText := true, laidKinds := [.data, .handle, .pinned], laidTests := true, laidLooks := .later }
def MstpBackUptoCardSaid : Prop := Claim7.holds Tryz.pinned (.plain (OpenSpec.upto mstpBackSpec)) mstpBackUptoCard
end Rows
end Go.Proofs.YtdjljnpbnhampaaGreatDoor
