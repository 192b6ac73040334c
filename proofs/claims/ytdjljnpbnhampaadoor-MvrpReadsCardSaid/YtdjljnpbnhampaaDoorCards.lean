/-
  DERIVED. GIVEN WITH THE SEED: THE CARDS: each row of YtdjljnpbnhampaaDoorRows.lean that lists a variable, with what it lists TIED to the program's text (the seventh form; the later family's looks); each row that meets fmt, with fmt's text TOLD by the authors' own Lean function (tested against real Go, not proved from fmt's source: count such statements apart). THE CARD IS WHAT COUNTS. Prove the row's statement (the work); the ties are given (YtdjljnpbnhampaaDoorTie.lean); close each card by the builder's one call (the guide's Derived/Test/ToyasCard.lean, 'card_holds'). Laid BY PROGRAM, IN A SANDBOX (cutbox-door.mjs). By AI agents, Wed Nov 11 2026. No macro, syntax, notation, axiom, sorry.
-/
import Derived.Test.YtdjljnpbnhampaaDoorRows
import GoSem.ClaimSeven
namespace Go.Proofs.YtdjljnpbnhampaaDoor
namespace Rows

/-- THE TIED CARD OF 'switchyardlaw.MstpReads'. -/
def mstpReadsCard : Claim7 := { stood := { row := mstpReadsRow, standIns := [], harness := (true, "5b7df3e52318b449969569616dd81d7a0afc8eabf188899a85362362e3e3aa8c"), looks := true }, kinds := [], alts := [], laidByText := true, laidKinds := [.data, .handle, .pinned], laidTests := true, laidLooks := .later }
def MstpReadsCardSaid : Prop := Claim7.holds Tryd.pinned (.plain (OpenSpec.ofChange mstpReadsSpec)) mstpReadsCard

/-- THE TIED CARD OF 'switchyardlaw.MvrpReads'. -/
def mvrpReadsCard : Claim7 := { stood := { row := mvrpReadsRow, standIns := [], harness := (true, "5b7df3e52318b449969569616dd81d7a0afc8eabf188899a85362362e3e3aa8c"), looks := true }, kinds := [], alts := [], laidByText := true, laidKinds := [.data, .handle, .pinned], laidTests := true, laidLooks := .later }
def MvrpReadsCardSaid : Prop := Claim7.holds Tryd.pinned (.plain (OpenSpec.ofChange mvrpReadsSpec)) mvrpReadsCard

/-- THE TIED CARD OF 'switchyardlaw.MvrpPacks'. -/
def mvrpPacksCard : Claim7 := { stood := { row := mvrpPacksRow, standIns := [], harness := (true, "5b7df3e52318b449969569616dd81d7a0afc8eabf188899a85362362e3e3aa8c"), looks := true }, kinds := [], alts := [], laidByText := true, laidKinds := [.handle], laidTests := true, laidLooks := .later }
def MvrpPacksCardSaid : Prop := Claim7.holds Tryd.pinned (.plain (OpenSpec.ofChange mvrpPacksSpec)) mvrpPacksCard

/-- THE TIED CARD OF 'switchyardkeep.MvrpFewest'. -/
def mvrpFewestCard : Claim7 := { stood := { row := mvrpFewestRow, standIns := [], harness := (true, "5b7df3e52318b449969569616dd81d7a0afc8eabf188899a85362362e3e3aa8c"), looks := true }, kinds := [], alts := [], laidByText := true, laidKinds := [.data, .handle, .pinned], laidTests := true, laidLooks := .later }
def MvrpFewestCardSaid : Prop := Claim7.holds Tryd.pinned (.plain (OpenSpec.ofChange mvrpFewestSpec)) mvrpFewestCard

/-- THE SECOND FORM's CARD OF 'switchyardlaw.MstpReads'. -/
def mstpReadsUptoCard : Claim7 := { stood := { row := mstpReadsUptoRow, standIns := [], harness := (true, "5b7df3e52318b449969569616dd81d7a0afc8eabf188899a85362362e3e3aa8c"), looks := true }, kinds := [], alts := [], laidByText := true, laidKinds := [.data, .handle, .pinned], laidTests := true, laidLooks := .later }
def MstpReadsUptoCardSaid : Prop := Claim7.holds Tryd.pinned (.plain (OpenSpec.upto mstpReadsSpec)) mstpReadsUptoCard

/-- THE SECOND FORM's CARD OF 'switchyardlaw.MvrpReads'. -/
def mvrpReadsUptoCard : Claim7 := { stood := { row := mvrpReadsUptoRow, standIns := [], harness := (true, "5b7df3e52318b449969569616dd81d7a0afc8eabf188899a85362362e3e3aa8c"), looks := true }, kinds := [], alts := [], laidByText := true, laidKinds := [.data, .handle, .pinned], laidTests := true, laidLooks := .later }
def MvrpReadsUptoCardSaid : Prop := Claim7.holds Tryd.pinned (.plain (OpenSpec.upto mvrpReadsSpec)) mvrpReadsUptoCard

/-- THE SECOND FORM's CARD OF 'switchyardlaw.MvrpPacks'. -/
def mvrpPacksUptoCard : Claim7 := { stood := { row := mvrpPacksUptoRow, standIns := [], harness := (true, "5b7df3e52318b449969569616dd81d7a0afc8eabf188899a85362362e3e3aa8c"), looks := true }, kinds := [], alts := [], laidByText := true, laidKinds := [.handle], laidTests := true, laidLooks := .later }
def MvrpPacksUptoCardSaid : Prop := Claim7.holds Tryd.pinned (.plain (OpenSpec.upto mvrpPacksSpec)) mvrpPacksUptoCard

/-- THE SECOND FORM's CARD OF 'switchyardkeep.MvrpFewest'. -/
def mvrpFewestUptoCard : Claim7 := { stood := { row := mvrpFewestUptoRow, standIns := [], harness := (true, "5b7df3e52318b449969569616dd81d7a0afc8eabf188899a85362362e3e3aa8c"), looks := true }, kinds := [], alts := [], laidByText := true, laidKinds := [.data, .handle, .pinned], laidTests := true, laidLooks := .later }
def MvrpFewestUptoCardSaid : Prop := Claim7.holds Tryd.pinned (.plain (OpenSpec.upto mvrpFewestSpec)) mvrpFewestUptoCard
end Rows
end Go.Proofs.YtdjljnpbnhampaaDoor
