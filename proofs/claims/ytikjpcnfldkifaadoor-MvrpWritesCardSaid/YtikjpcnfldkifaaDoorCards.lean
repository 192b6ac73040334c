/-
  DERIVED. GIVEN WITH THE SEED: THE CARDS: each row of YtikjpcnfldkifaaDoorRows.lean that lists a variable, with what it lists TIED to the program's text (the seventh form; the later family's looks); each row that meets fmt, with fmt's text TOLD by the authors' own Lean function (tested against real Go, not proved from fmt's source: count such statements apart). THE CARD IS WHAT COUNTS. Prove the row's statement (the work); the ties are given (YtikjpcnfldkifaaDoorTie.lean); close each card by the builder's one call (the guide's Derived/Test/ToyasCard.lean, 'card_holds'). Laid BY PROGRAM, IN A SANDBOX (cutbox-door.mjs). By AI agents, Wed Nov 11 2026. No macro, syntax, notation, axiom, sorry.
-/
import Derived.Test.YtikjpcnfldkifaaDoorRows
import GoSem.ClaimSeven
namespace Go.Proofs.YtikjpcnfldkifaaDoor
namespace Rows

/-- THE TIED CARD OF 'switchyardlaw.MvrpWrites'. -/
def mvrpWritesCard : Claim7 := { stood := { row := mvrpWritesRow, standIns := [], harness := (true, "997696686fa4157e143c7480528aaa9212a3a9122c00e45417f6a2fc6d2d53a8"), looks := true }, kinds := [], alts := [], laidByText := true, laidKinds := [.handle], laidTests := true, laidLooks := .later }
def MvrpWritesCardSaid : Prop := Claim7.holds Tryd.pinned (.plain (OpenSpec.ofChange mvrpWritesSpec)) mvrpWritesCard

/-- THE TIED CARD OF 'switchyardlaw.MvrpReads'. -/
def mvrpReadsCard : Claim7 := { stood := { row := mvrpReadsRow, standIns := [], harness := (true, "997696686fa4157e143c7480528aaa9212a3a9122c00e45417f6a2fc6d2d53a8"), looks := true }, kinds := [], alts := [], laidByText := true, laidKinds := [.data, .handle, .pinned], laidTests := true, laidLooks := .later }
def MvrpReadsCardSaid : Prop := Claim7.holds Tryd.pinned (.plain (OpenSpec.ofChange mvrpReadsSpec)) mvrpReadsCard

/-- THE TIED CARD OF 'switchyardlaw.MvrpPacks'. -/
def mvrpPacksCard : Claim7 := { stood := { row := mvrpPacksRow, standIns := [], harness := (true, "997696686fa4157e143c7480528aaa9212a3a9122c00e45417f6a2fc6d2d53a8"), looks := true }, kinds := [], alts := [], laidByText := true, laidKinds := [.handle], laidTests := true, laidLooks := .later }
def MvrpPacksCardSaid : Prop := Claim7.holds Tryd.pinned (.plain (OpenSpec.ofChange mvrpPacksSpec)) mvrpPacksCard

/-- THE TIED CARD OF 'switchyardkeep.MvrpCut'. -/
def mvrpCutCard : Claim7 := { stood := { row := mvrpCutRow, standIns := [], harness := (true, "997696686fa4157e143c7480528aaa9212a3a9122c00e45417f6a2fc6d2d53a8"), looks := true }, kinds := [], alts := [], laidByText := true, laidKinds := [.data, .handle, .pinned], laidTests := true, laidLooks := .later }
def MvrpCutCardSaid : Prop := Claim7.holds Tryd.pinned (.plain (OpenSpec.ofChange mvrpCutSpec)) mvrpCutCard

/-- THE TIED CARD OF 'switchyardkeep.MvrpBack'. -/
def mvrpBackCard : Claim7 := { stood := { row := mvrpBackRow, standIns := [], harness := (true, "997696686fa4157e143c7480528aaa9212a3a9122c00e45417f6a2fc6d2d53a8"), looks := true }, kinds := [], alts := [], laidByText := true, laidKinds := [.data, .pinned], laidTests := true, laidLooks := .later }
def MvrpBackCardSaid : Prop := Claim7.holds Tryd.pinned (.plain (OpenSpec.ofChange mvrpBackSpec)) mvrpBackCard

/-- THE TIED CARD OF 'switchyardkeep.MvrpStill'. -/
def mvrpStillCard : Claim7 := { stood := { row := mvrpStillRow, standIns := [], harness := (true, "997696686fa4157e143c7480528aaa9212a3a9122c00e45417f6a2fc6d2d53a8"), looks := true }, kinds := [], alts := [], laidByText := true, laidKinds := [.data, .pinned], laidTests := true, laidLooks := .later }
def MvrpStillCardSaid : Prop := Claim7.holds Tryd.pinned (.plain (OpenSpec.ofChange mvrpStillSpec)) mvrpStillCard

/-- THE TIED CARD OF 'switchyardkeep.MvrpFewest'. -/
def mvrpFewestCard : Claim7 := { stood := { row := mvrpFewestRow, standIns := [], harness := (true, "997696686fa4157e143c7480528aaa9212a3a9122c00e45417f6a2fc6d2d53a8"), looks := true }, kinds := [], alts := [], laidByText := true, laidKinds := [.data, .handle, .pinned], laidTests := true, laidLooks := .later }
def MvrpFewestCardSaid : Prop := Claim7.holds Tryd.pinned (.plain (OpenSpec.ofChange mvrpFewestSpec)) mvrpFewestCard

/-- THE TIED CARD OF 'switchyardkeep.MvrpJoins'. -/
def mvrpJoinsCard : Claim7 := { stood := { row := mvrpJoinsRow, standIns := [], harness := (true, "997696686fa4157e143c7480528aaa9212a3a9122c00e45417f6a2fc6d2d53a8"), looks := true }, kinds := [], alts := [], laidByText := true, laidKinds := [.data, .pinned], laidTests := true, laidLooks := .later }
def MvrpJoinsCardSaid : Prop := Claim7.holds Tryd.pinned (.plain (OpenSpec.ofChange mvrpJoinsSpec)) mvrpJoinsCard

/-- THE SECOND FORM's CARD OF 'switchyardlaw.MvrpWrites'. -/
def mvrpWritesUptoCard : Claim7 := { stood := { row := mvrpWritesUptoRow, standIns := [], harness := (true, "997696686fa4157e143c7480528aaa9212a3a9122c00e45417f6a2fc6d2d53a8"), looks := true }, kinds := [], alts := [], laidByText := true, laidKinds := [.handle], laidTests := true, laidLooks := .later }
def MvrpWritesUptoCardSaid : Prop := Claim7.holds Tryd.pinned (.plain (OpenSpec.upto mvrpWritesSpec)) mvrpWritesUptoCard

/-- THE SECOND FORM's CARD OF 'switchyardlaw.MvrpReads'. -/
def mvrpReadsUptoCard : Claim7 := { stood := { row := mvrpReadsUptoRow, standIns := [], harness := (true, "997696686fa4157e143c7480528aaa9212a3a9122c00e45417f6a2fc6d2d53a8"), looks := true }, kinds := [], alts := [], laidByText := true, laidKinds := [.data, .handle, .pinned], laidTests := true, laidLooks := .later }
def MvrpReadsUptoCardSaid : Prop := Claim7.holds Tryd.pinned (.plain (OpenSpec.upto mvrpReadsSpec)) mvrpReadsUptoCard

/-- THE SECOND FORM's CARD OF 'switchyardlaw.MvrpPacks'. -/
def mvrpPacksUptoCard : Claim7 := { stood := { row := mvrpPacksUptoRow, standIns := [], harness := (true, "997696686fa4157e143c7480528aaa9212a3a9122c00e45417f6a2fc6d2d53a8"), looks := true }, kinds := [], alts := [], laidByText := true, laidKinds := [.handle], laidTests := true, laidLooks := .later }
def MvrpPacksUptoCardSaid : Prop := Claim7.holds Tryd.pinned (.plain (OpenSpec.upto mvrpPacksSpec)) mvrpPacksUptoCard

/-- THE SECOND FORM's CARD OF 'switchyardkeep.MvrpCut'. -/
def mvrpCutUptoCard : Claim7 := { stood := { row := mvrpCutUptoRow, standIns := [], harness := (true, "997696686fa4157e143c7480528aaa9212a3a9122c00e45417f6a2fc6d2d53a8"), looks := true }, kinds := [], alts := [], laidByText := true, laidKinds := [.data, .handle, .pinned], laidTests := true, laidLooks := .later }
def MvrpCutUptoCardSaid : Prop := Claim7.holds Tryd.pinned (.plain (OpenSpec.upto mvrpCutSpec)) mvrpCutUptoCard

/-- THE SECOND FORM's CARD OF 'switchyardkeep.MvrpBack'. -/
def mvrpBackUptoCard : Claim7 := { stood := { row := mvrpBackUptoRow, standIns := [], harness := (true, "997696686fa4157e143c7480528aaa9212a3a9122c00e45417f6a2fc6d2d53a8"), looks := true }, kinds := [], alts := [], laidByText := true, laidKinds := [.data, .pinned], laidTests := true, laidLooks := .later }
def MvrpBackUptoCardSaid : Prop := Claim7.holds Tryd.pinned (.plain (OpenSpec.upto mvrpBackSpec)) mvrpBackUptoCard

/-- THE SECOND FORM's CARD OF 'switchyardkeep.MvrpStill'. -/
def mvrpStillUptoCard : Claim7 := { stood := { row := mvrpStillUptoRow, standIns := [], harness := (true, "997696686fa4157e143c7480528aaa9212a3a9122c00e45417f6a2fc6d2d53a8"), looks := true }, kinds := [], alts := [], laidByText := true, laidKinds := [.data, .pinned], laidTests := true, laidLooks := .later }
def MvrpStillUptoCardSaid : Prop := Claim7.holds Tryd.pinned (.plain (OpenSpec.upto mvrpStillSpec)) mvrpStillUptoCard

/-- THE SECOND FORM's CARD OF 'switchyardkeep.MvrpFewest'. -/
def mvrpFewestUptoCard : Claim7 := { stood := { row := mvrpFewestUptoRow, standIns := [], harness := (true, "997696686fa4157e143c7480528aaa9212a3a9122c00e45417f6a2fc6d2d53a8"), looks := true }, kinds := [], alts := [], laidByText := true, laidKinds := [.data, .handle, .pinned], laidTests := true, laidLooks := .later }
def MvrpFewestUptoCardSaid : Prop := Claim7.holds Tryd.pinned (.plain (OpenSpec.upto mvrpFewestSpec)) mvrpFewestUptoCard

/-- THE SECOND FORM's CARD OF 'switchyardkeep.MvrpJoins'. -/
def mvrpJoinsUptoCard : Claim7 := { stood := { row := mvrpJoinsUptoRow, standIns := [], harness := (true, "997696686fa4157e143c7480528aaa9212a3a9122c00e45417f6a2fc6d2d53a8"), looks := true }, kinds := [], alts := [], laidByText := true, laidKinds := [.data, .pinned], laidTests := true, laidLooks := .later }
def MvrpJoinsUptoCardSaid : Prop := Claim7.holds Tryd.pinned (.plain (OpenSpec.upto mvrpJoinsSpec)) mvrpJoinsUptoCard
end Rows
end Go.Proofs.YtikjpcnfldkifaaDoor
