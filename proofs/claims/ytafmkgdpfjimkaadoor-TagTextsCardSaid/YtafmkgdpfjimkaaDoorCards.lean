/-
  DERIVED. GIVEN WITH THE SEED: THE CARDS: each row of YtafmkgdpfjimkaaDoorRows.lean that lists a variable, with what it lists TIED to the program's text (the seventh form; the later family's looks); each row that meets fmt, with fmt's text TOLD by the authors' own Lean function (tested against real Go, not proved from fmt's source: count such statements apart). THE CARD IS WHAT COUNTS. Prove the row's statement (the work); the ties are given (YtafmkgdpfjimkaaDoorTie.lean); close each card by the builder's one call (the guide's Derived/Test/ToyasCard.lean, 'card_holds'). Laid BY PROGRAM, IN A SANDBOX (cutbox-door.mjs). By AI agents, Wed Nov 11 2026. No macro, syntax, notation, axiom, sorry.
-/
import Derived.Test.YtafmkgdpfjimkaaDoorRows
import GoSem.ClaimSeven
namespace Go.Proofs.YtafmkgdpfjimkaaDoor
namespace Rows

/-- THE TIED CARD OF 'switchyardlaw.MacTexts'. -/
def macTextsCard : Claim7 := { stood := { row := macTextsRow, standIns := [], harness := (true, "9c4b10c4744415a97c3289f549108b0e719e5951430267b01b58c58f899efee1"), looks := true }, kinds := [], alts := [], laidByText := true, laidKinds := [.data, .data, .data, .handle], laidTests := true, laidLooks := .later }
def MacTextsCardSaid : Prop := Claim7.holds Tryd.pinned (.plain (OpenSpec.ofChange macTextsSpec)) macTextsCard

/-- THE TIED CARD OF 'switchyardlaw.MacKnows'. -/
def macKnowsCard : Claim7 := { stood := { row := macKnowsRow, standIns := [], harness := (true, "9c4b10c4744415a97c3289f549108b0e719e5951430267b01b58c58f899efee1"), looks := true }, kinds := [], alts := [], laidByText := true, laidKinds := [.data, .data, .data], laidTests := true, laidLooks := .later }
def MacKnowsCardSaid : Prop := Claim7.holds Tryd.pinned (.plain (OpenSpec.ofChange macKnowsSpec)) macKnowsCard

/-- THE TIED CARD OF 'switchyardlaw.TagPacks'. -/
def tagPacksCard : Claim7 := { stood := { row := tagPacksRow, standIns := [], harness := (true, "9c4b10c4744415a97c3289f549108b0e719e5951430267b01b58c58f899efee1"), looks := true }, kinds := [], alts := [], laidByText := true, laidKinds := [.handle], laidTests := true, laidLooks := .later }
def TagPacksCardSaid : Prop := Claim7.holds Tryd.pinned (.plain (OpenSpec.ofChange tagPacksSpec)) tagPacksCard

/-- THE TIED CARD OF 'switchyardlaw.TagTexts'. -/
def tagTextsCard : Claim7 := { stood := { row := tagTextsRow, standIns := [], harness := (true, "9c4b10c4744415a97c3289f549108b0e719e5951430267b01b58c58f899efee1"), looks := true }, kinds := [], alts := [], laidByText := true, laidKinds := [.data, .data, .data, .handle, .sentinel, .sentinel], laidTests := true, laidLooks := .later }
def TagTextsCardSaid : Prop := Claim7.holds Tryd.pinned (.plain (OpenSpec.ofChange tagTextsSpec)) tagTextsCard

/-- THE TIED CARD OF 'switchyardkeep.TagBack'. -/
def tagBackCard : Claim7 := { stood := { row := tagBackRow, standIns := [], harness := (true, "9c4b10c4744415a97c3289f549108b0e719e5951430267b01b58c58f899efee1"), looks := true }, kinds := [], alts := [], laidByText := true, laidKinds := [.data, .data, .data, .sentinel, .sentinel], laidTests := true, laidLooks := .later }
def TagBackCardSaid : Prop := Claim7.holds Tryd.pinned (.plain (OpenSpec.ofChange tagBackSpec)) tagBackCard

/-- THE TIED CARD OF 'switchyardkeep.TagOnly'. -/
def tagOnlyCard : Claim7 := { stood := { row := tagOnlyRow, standIns := [], harness := (true, "9c4b10c4744415a97c3289f549108b0e719e5951430267b01b58c58f899efee1"), looks := true }, kinds := [], alts := [], laidByText := true, laidKinds := [.data, .data, .data, .sentinel, .sentinel], laidTests := true, laidLooks := .later }
def TagOnlyCardSaid : Prop := Claim7.holds Tryd.pinned (.plain (OpenSpec.ofChange tagOnlySpec)) tagOnlyCard

/-- THE TIED CARD OF 'switchyardkeep.TagInner'. -/
def tagInnerCard : Claim7 := { stood := { row := tagInnerRow, standIns := [], harness := (true, "9c4b10c4744415a97c3289f549108b0e719e5951430267b01b58c58f899efee1"), looks := true }, kinds := [], alts := [], laidByText := true, laidKinds := [.data, .data, .data, .sentinel, .sentinel], laidTests := true, laidLooks := .later }
def TagInnerCardSaid : Prop := Claim7.holds Tryd.pinned (.plain (OpenSpec.ofChange tagInnerSpec)) tagInnerCard

/-- THE SECOND FORM's CARD OF 'switchyardlaw.MacTexts'. -/
def macTextsUptoCard : Claim7 := { stood := { row := macTextsUptoRow, standIns := [], harness := (true, "9c4b10c4744415a97c3289f549108b0e719e5951430267b01b58c58f899efee1"), looks := true }, kinds := [], alts := [], laidByText := true, laidKinds := [.data, .data, .data, .handle], laidTests := true, laidLooks := .later }
def MacTextsUptoCardSaid : Prop := Claim7.holds Tryd.pinned (.plain (OpenSpec.upto macTextsSpec)) macTextsUptoCard

/-- THE SECOND FORM's CARD OF 'switchyardlaw.MacKnows'. -/
def macKnowsUptoCard : Claim7 := { stood := { row := macKnowsUptoRow, standIns := [], harness := (true, "9c4b10c4744415a97c3289f549108b0e719e5951430267b01b58c58f899efee1"), looks := true }, kinds := [], alts := [], laidByText := true, laidKinds := [.data, .data, .data], laidTests := true, laidLooks := .later }
def MacKnowsUptoCardSaid : Prop := Claim7.holds Tryd.pinned (.plain (OpenSpec.upto macKnowsSpec)) macKnowsUptoCard

/-- THE SECOND FORM's CARD OF 'switchyardlaw.TagPacks'. -/
def tagPacksUptoCard : Claim7 := { stood := { row := tagPacksUptoRow, standIns := [], harness := (true, "9c4b10c4744415a97c3289f549108b0e719e5951430267b01b58c58f899efee1"), looks := true }, kinds := [], alts := [], laidByText := true, laidKinds := [.handle], laidTests := true, laidLooks := .later }
def TagPacksUptoCardSaid : Prop := Claim7.holds Tryd.pinned (.plain (OpenSpec.upto tagPacksSpec)) tagPacksUptoCard

/-- THE SECOND FORM's CARD OF 'switchyardlaw.TagTexts'. -/
def tagTextsUptoCard : Claim7 := { stood := { row := tagTextsUptoRow, standIns := [], harness := (true, "9c4b10c4744415a97c3289f549108b0e719e5951430267b01b58c58f899efee1"), looks := true }, kinds := [], alts := [], laidByText := true, laidKinds := [.data, .data, .data, .handle, .sentinel, .sentinel], laidTests := true, laidLooks := .later }
def TagTextsUptoCardSaid : Prop := Claim7.holds Tryd.pinned (.plain (OpenSpec.upto tagTextsSpec)) tagTextsUptoCard

/-- THE SECOND FORM's CARD OF 'switchyardkeep.TagBack'. -/
def tagBackUptoCard : Claim7 := { stood := { row := tagBackUptoRow, standIns := [], harness := (true, "9c4b10c4744415a97c3289f549108b0e719e5951430267b01b58c58f899efee1"), looks := true }, kinds := [], alts := [], laidByText := true, laidKinds := [.data, .data, .data, .sentinel, .sentinel], laidTests := true, laidLooks := .later }
def TagBackUptoCardSaid : Prop := Claim7.holds Tryd.pinned (.plain (OpenSpec.upto tagBackSpec)) tagBackUptoCard

/-- THE SECOND FORM's CARD OF 'switchyardkeep.TagOnly'. -/
def tagOnlyUptoCard : Claim7 := { stood := { row := tagOnlyUptoRow, standIns := [], harness := (true, "9c4b10c4744415a97c3289f549108b0e719e5951430267b01b58c58f899efee1"), looks := true }, kinds := [], alts := [], laidByText := true, laidKinds := [.data, .data, .data, .sentinel, .sentinel], laidTests := true, laidLooks := .later }
def TagOnlyUptoCardSaid : Prop := Claim7.holds Tryd.pinned (.plain (OpenSpec.upto tagOnlySpec)) tagOnlyUptoCard

/-- THE SECOND FORM's CARD OF 'switchyardkeep.TagInner'. -/
def tagInnerUptoCard : Claim7 := { stood := { row := tagInnerUptoRow, standIns := [], harness := (true, "9c4b10c4744415a97c3289f549108b0e719e5951430267b01b58c58f899efee1"), looks := true }, kinds := [], alts := [], laidByText := true, laidKinds := [.data, .data, .data, .sentinel, .sentinel], laidTests := true, laidLooks := .later }
def TagInnerUptoCardSaid : Prop := Claim7.holds Tryd.pinned (.plain (OpenSpec.upto tagInnerSpec)) tagInnerUptoCard
end Rows
end Go.Proofs.YtafmkgdpfjimkaaDoor
