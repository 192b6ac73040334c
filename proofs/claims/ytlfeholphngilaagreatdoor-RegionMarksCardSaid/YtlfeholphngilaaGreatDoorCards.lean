/-
  DERIVED. GIVEN WITH THE SEED: THE CARDS: each row of YtlfeholphngilaaGreatDoorRows.lean that lists a variable, with what it lists TIED to the program's text (the seventh form; the later family's looks); each row that meets fmt, with fmt's text TOLD by the authors' own Lean function (tested against real Go, not proved from fmt's source: count such statements apart). THE CARD IS WHAT COUNTS. Prove the row's statement (the work); the ties are given (YtlfeholphngilaaGreatDoorTie.lean); close each card by the builder's one call (the guide's Derived/Test/ToyasCard.lean, 'card_holds'). Laid BY PROGRAM, IN A SANDBOX (cutbox-door.mjs). By AI agents, Wed Nov 11 2026. No macro, syntax, notation, axiom, sorry.
-/
import Derived.Test.YtlfeholphngilaaGreatDoorRows
import GoSem.ClaimSeven
namespace Go.Proofs.YtlfeholphngilaaGreatDoor
namespace Rows

/-- THE TIED CARD OF 'switchyardlaw.RegionMarks'. -/
def regionMarksCard : Claim7 := { stood := { row := regionMarksRow, standIns := [], harness := (true, "dd90f1e2efe62f0b5b5ebbb3ca3dcbd02ae6726a0643e919e40afaac1a9ed52d"), looks := true }, kinds := [], alts := [], laidByText := true, laidKinds := [.data, .data, .data, .handle, .sentinel, .sentinel, .data, .data], laidTests := true, laidLooks := .later }
def RegionMarksCardSaid : Prop := Claim7.holds Tryz.pinned (.plain (OpenSpec.ofChange regionMarksSpec)) regionMarksCard

/-- THE SECOND FORM's CARD OF 'switchyardlaw.RegionMarks'. -/
def regionMarksUptoCard : Claim7 := { stood := { row := regionMarksUptoRow, standIns := [], harness := (true, "dd90f1e2efe62f0b5b5ebbb3ca3dcbd02ae6726a0643e919e40afaac1a9ed52d"), looks := true }, kinds := [], alts := [], laidByText := true, laidKinds := [.data, .data, .data, .handle, .sentinel, .sentinel, .data, .data], laidTests := true, laidLooks := .later }
def RegionMarksUptoCardSaid : Prop := Claim7.holds Tryz.pinned (.plain (OpenSpec.upto regionMarksSpec)) regionMarksUptoCard
end Rows
end Go.Proofs.YtlfeholphngilaaGreatDoor
