/-
  DERIVED. GIVEN WITH THE SEED: THE CARDS: each row of YtocgnbbnaamjjaaGreatDoorRows.lean that lists a variable, with what it lists TIED to the program's text (the seventh form; the later family's looks); each row that meets fmt, with fmt's text TOLD by the authors' own Lean function (tested against real Go, not proved from fmt's source: count such statements apart). THE CARD IS WHAT COUNTS. Prove the row's statement (the work); the ties are given (YtocgnbbnaamjjaaGreatDoorTie.lean); close each card by the builder's one call (the guide's Derived/Test/ToyasCard.lean, 'card_holds'). Laid BY PROGRAM, IN A SANDBOX (cutbox-door.mjs). By AI agents, Wed Nov 11 2026. No macro, syntax, notation, axiom, sorry.
-/
import Derived.Test.YtocgnbbnaamjjaaGreatDoorRows
import GoSem.ClaimSeven
namespace Go.Proofs.YtocgnbbnaamjjaaGreatDoor
namespace Rows

/-- THE TIED CARD OF 'switchyardlaw.LldpReads'. -/
def lldpReadsCard : Claim7 := { stood := { row := lldpReadsRow, standIns := [], harness := (true, "8d4540f52e025f6c8fe4e37907e1965be57f84be5a19db0ad15cd5827cbf848d"), looks := true }, kinds := [], alts := [], laidByText := true, laidKinds := [.data, .handle, .pinned], laidTests := true, laidLooks := .later }
def LldpReadsCardSaid : Prop := Claim7.holds Tryz.pinned (.plain (OpenSpec.ofChange lldpReadsSpec)) lldpReadsCard

/-- THE SECOND FORM's CARD OF 'switchyardlaw.LldpReads'. -/
def lldpReadsUptoCard : Claim7 := { stood := { row := lldpReadsUptoRow, standIns := [], harness := (true, "8d4540f52e025f6c8fe4e37907e1965be57f84be5a19db0ad15cd5827cbf848d"), looks := true }, kinds := [], alts := [], laidByText := true, laidKinds := [.data, .handle, .pinned], laidTests := true, laidLooks := .later }
def LldpReadsUptoCardSaid : Prop := Claim7.holds Tryz.pinned (.plain (OpenSpec.upto lldpReadsSpec)) lldpReadsUptoCard
end Rows
end Go.Proofs.YtocgnbbnaamjjaaGreatDoor
