/-
  DERIVED. GIVEN WITH THE SEED: THE CARDS: each row of YtocgnbbnaamjjaaDoorRows.lean that lists a variable, with what it lists TIED to the program's text (the seventh form; the later family's looks); each row that meets fmt, with fmt's text TOLD by the authors' own Lean function (tested against real Go, not proved from fmt's source: count such statements apart). THE CARD IS WHAT COUNTS. Prove the row's statement (the work); the ties are given (YtocgnbbnaamjjaaDoorTie.lean); close each card by the builder's one call (the guide's Derived/Test/ToyasCard.lean, 'card_holds'). Laid BY PROGRAM, IN A SANDBOX (cutbox-door.mjs). By AI agents, Wed Nov 11 2026. No macro, syntax, notation, axiom, sorry.
-/
import Derived.Test.YtocgnbbnaamjjaaDoorRows
import GoSem.ClaimSeven
namespace Go.Proofs.YtocgnbbnaamjjaaDoor
namespace Rows

/-- THE TIED CARD OF 'switchyardlaw.LacpWrites'. -/
def lacpWritesCard : Claim7 := { stood := { row := lacpWritesRow, standIns := [], harness := (true, "f6d481efcb39801e88a61ee1a2cc74c51f474c9f718f12da0ae9cdc4f2c8cd45"), looks := true }, kinds := [], alts := [], laidByText := true, laidKinds := [.handle], laidTests := true, laidLooks := .later }
def LacpWritesCardSaid : Prop := Claim7.holds Tryd.pinned (.plain (OpenSpec.ofChange lacpWritesSpec)) lacpWritesCard

/-- THE TIED CARD OF 'switchyardlaw.MarkerWrites'. -/
def markerWritesCard : Claim7 := { stood := { row := markerWritesRow, standIns := [], harness := (true, "f6d481efcb39801e88a61ee1a2cc74c51f474c9f718f12da0ae9cdc4f2c8cd45"), looks := true }, kinds := [], alts := [], laidByText := true, laidKinds := [.handle], laidTests := true, laidLooks := .later }
def MarkerWritesCardSaid : Prop := Claim7.holds Tryd.pinned (.plain (OpenSpec.ofChange markerWritesSpec)) markerWritesCard

/-- THE TIED CARD OF 'switchyardkeep.LacpSides'. -/
def lacpSidesCard : Claim7 := { stood := { row := lacpSidesRow, standIns := [], harness := (true, "f6d481efcb39801e88a61ee1a2cc74c51f474c9f718f12da0ae9cdc4f2c8cd45"), looks := true }, kinds := [], alts := [], laidByText := true, laidKinds := [.data, .pinned], laidTests := true, laidLooks := .later }
def LacpSidesCardSaid : Prop := Claim7.holds Tryd.pinned (.plain (OpenSpec.ofChange lacpSidesSpec)) lacpSidesCard

/-- THE TIED CARD OF 'switchyardkeep.LacpBack'. -/
def lacpBackCard : Claim7 := { stood := { row := lacpBackRow, standIns := [], harness := (true, "f6d481efcb39801e88a61ee1a2cc74c51f474c9f718f12da0ae9cdc4f2c8cd45"), looks := true }, kinds := [], alts := [], laidByText := true, laidKinds := [.data, .handle, .pinned], laidTests := true, laidLooks := .later }
def LacpBackCardSaid : Prop := Claim7.holds Tryd.pinned (.plain (OpenSpec.ofChange lacpBackSpec)) lacpBackCard

/-- THE TIED CARD OF 'switchyardkeep.LacpFree'. -/
def lacpFreeCard : Claim7 := { stood := { row := lacpFreeRow, standIns := [], harness := (true, "f6d481efcb39801e88a61ee1a2cc74c51f474c9f718f12da0ae9cdc4f2c8cd45"), looks := true }, kinds := [], alts := [], laidByText := true, laidKinds := [.data, .pinned], laidTests := true, laidLooks := .later }
def LacpFreeCardSaid : Prop := Claim7.holds Tryd.pinned (.plain (OpenSpec.ofChange lacpFreeSpec)) lacpFreeCard

/-- THE TIED CARD OF 'switchyardkeep.MarkerBack'. -/
def markerBackCard : Claim7 := { stood := { row := markerBackRow, standIns := [], harness := (true, "f6d481efcb39801e88a61ee1a2cc74c51f474c9f718f12da0ae9cdc4f2c8cd45"), looks := true }, kinds := [], alts := [], laidByText := true, laidKinds := [.data, .handle, .pinned], laidTests := true, laidLooks := .later }
def MarkerBackCardSaid : Prop := Claim7.holds Tryd.pinned (.plain (OpenSpec.ofChange markerBackSpec)) markerBackCard

/-- THE SECOND FORM's CARD OF 'switchyardlaw.LacpWrites'. -/
def lacpWritesUptoCard : Claim7 := { stood := { row := lacpWritesUptoRow, standIns := [], harness := (true, "f6d481efcb39801e88a61ee1a2cc74c51f474c9f718f12da0ae9cdc4f2c8cd45"), looks := true }, kinds := [], alts := [], laidByText := true, laidKinds := [.handle], laidTests := true, laidLooks := .later }
def LacpWritesUptoCardSaid : Prop := Claim7.holds Tryd.pinned (.plain (OpenSpec.upto lacpWritesSpec)) lacpWritesUptoCard

/-- THE SECOND FORM's CARD OF 'switchyardlaw.MarkerWrites'. -/
def markerWritesUptoCard : Claim7 := { stood := { row := markerWritesUptoRow, standIns := [], harness := (true, "f6d481efcb39801e88a61ee1a2cc74c51f474c9f718f12da0ae9cdc4f2c8cd45"), looks := true }, kinds := [], alts := [], laidByText := true, laidKinds := [.handle], laidTests := true, laidLooks := .later }
def MarkerWritesUptoCardSaid : Prop := Claim7.holds Tryd.pinned (.plain (OpenSpec.upto markerWritesSpec)) markerWritesUptoCard

/-- THE SECOND FORM's CARD OF 'switchyardkeep.LacpSides'. -/
def lacpSidesUptoCard : Claim7 := { stood := { row := lacpSidesUptoRow, standIns := [], harness := (true, "f6d481efcb39801e88a61ee1a2cc74c51f474c9f718f12da0ae9cdc4f2c8cd45"), looks := true }, kinds := [], alts := [], laidByText := true, laidKinds := [.data, .pinned], laidTests := true, laidLooks := .later }
def LacpSidesUptoCardSaid : Prop := Claim7.holds Tryd.pinned (.plain (OpenSpec.upto lacpSidesSpec)) lacpSidesUptoCard

/-- THE SECOND FORM's CARD OF 'switchyardkeep.LacpBack'. -/
def lacpBackUptoCard : Claim7 := { stood := { row := lacpBackUptoRow, standIns := [], harness := (true, "f6d481efcb39801e88a61ee1a2cc74c51f474c9f718f12da0ae9cdc4f2c8cd45"), looks := true }, kinds := [], alts := [], laidByText := true, laidKinds := [.data, .handle, .pinned], laidTests := true, laidLooks := .later }
def LacpBackUptoCardSaid : Prop := Claim7.holds Tryd.pinned (.plain (OpenSpec.upto lacpBackSpec)) lacpBackUptoCard

/-- THE SECOND FORM's CARD OF 'switchyardkeep.LacpFree'. -/
def lacpFreeUptoCard : Claim7 := { stood := { row := lacpFreeUptoRow, standIns := [], harness := (true, "f6d481efcb39801e88a61ee1a2cc74c51f474c9f718f12da0ae9cdc4f2c8cd45"), looks := true }, kinds := [], alts := [], laidByText := true, laidKinds := [.data, .pinned], laidTests := true, laidLooks := .later }
def LacpFreeUptoCardSaid : Prop := Claim7.holds Tryd.pinned (.plain (OpenSpec.upto lacpFreeSpec)) lacpFreeUptoCard

/-- THE SECOND FORM's CARD OF 'switchyardkeep.MarkerBack'. -/
def markerBackUptoCard : Claim7 := { stood := { row := markerBackUptoRow, standIns := [], harness := (true, "f6d481efcb39801e88a61ee1a2cc74c51f474c9f718f12da0ae9cdc4f2c8cd45"), looks := true }, kinds := [], alts := [], laidByText := true, laidKinds := [.data, .handle, .pinned], laidTests := true, laidLooks := .later }
def MarkerBackUptoCardSaid : Prop := Claim7.holds Tryd.pinned (.plain (OpenSpec.upto markerBackSpec)) markerBackUptoCard
end Rows
end Go.Proofs.YtocgnbbnaamjjaaDoor
