/-
  DERIVED. GIVEN WITH THE SEED: THE CARDS: each row of YtceiiolpggolbaaDoorRows.lean that lists a variable, with what it lists TIED to the program's text (the seventh form; the later family's looks); each row that meets fmt, with fmt's text TOLD by the authors' own Lean function (tested against real Go, not proved from fmt's source: count such statements apart). THE CARD IS WHAT COUNTS. Prove the row's statement (the work); the ties are given (YtceiiolpggolbaaDoorTie.lean); close each card by the builder's one call (the guide's Derived/Test/ToyasCard.lean, 'card_holds'). Laid BY PROGRAM, IN A SANDBOX (cutbox-door.mjs). By AI agents, Wed Nov 11 2026. No macro, syntax, notation, axiom, sorry.
-/
import Derived.Test.YtceiiolpggolbaaDoorRows
import GoSem.ClaimSeven
namespace Go.Proofs.YtceiiolpggolbaaDoor
namespace Rows

/-- THE TIED CARD OF 'switchyardlaw.PrioPacks'. -/
def prioPacksCard : Claim7 := { stood := { row := prioPacksRow, standIns := [], harness := (true, "3495814c84ee47c63a415e6707d0c469990dd891aa4aba4f300fe95306feb44c"), looks := true }, kinds := [], alts := [], laidByText := true, laidKinds := [.handle], laidTests := true, laidLooks := .later }
def PrioPacksCardSaid : Prop := Claim7.holds Tryd.pinned (.plain (OpenSpec.ofChange prioPacksSpec)) prioPacksCard

/-- THE TIED CARD OF 'switchyardlaw.PrioReads'. -/
def prioReadsCard : Claim7 := { stood := { row := prioReadsRow, standIns := [], harness := (true, "3495814c84ee47c63a415e6707d0c469990dd891aa4aba4f300fe95306feb44c"), looks := true }, kinds := [], alts := [], laidByText := true, laidKinds := [.handle], laidTests := true, laidLooks := .later }
def PrioReadsCardSaid : Prop := Claim7.holds Tryd.pinned (.plain (OpenSpec.ofChange prioReadsSpec)) prioReadsCard

/-- THE TIED CARD OF 'switchyardlaw.PrioTexts'. -/
def prioTextsCard : Claim7 := { stood := { row := prioTextsRow, standIns := [], harness := (true, "3495814c84ee47c63a415e6707d0c469990dd891aa4aba4f300fe95306feb44c"), looks := true }, kinds := [], alts := [], laidByText := true, laidKinds := [.data, .data, .data, .handle, .sentinel, .sentinel], laidTests := true, laidLooks := .later }
def PrioTextsCardSaid : Prop := Claim7.holds Tryd.pinned (.plain (OpenSpec.ofChange prioTextsSpec)) prioTextsCard

/-- THE TIED CARD OF 'switchyardkeep.PrioBack'. -/
def prioBackCard : Claim7 := { stood := { row := prioBackRow, standIns := [], harness := (true, "3495814c84ee47c63a415e6707d0c469990dd891aa4aba4f300fe95306feb44c"), looks := true }, kinds := [], alts := [], laidByText := true, laidKinds := [.data, .data, .data, .sentinel, .sentinel], laidTests := true, laidLooks := .later }
def PrioBackCardSaid : Prop := Claim7.holds Tryd.pinned (.plain (OpenSpec.ofChange prioBackSpec)) prioBackCard

/-- THE TIED CARD OF 'switchyardkeep.PrioPacked'. -/
def prioPackedCard : Claim7 := { stood := { row := prioPackedRow, standIns := [], harness := (true, "3495814c84ee47c63a415e6707d0c469990dd891aa4aba4f300fe95306feb44c"), looks := true }, kinds := [], alts := [], laidByText := true, laidKinds := [.data, .data, .data, .sentinel, .sentinel], laidTests := true, laidLooks := .later }
def PrioPackedCardSaid : Prop := Claim7.holds Tryd.pinned (.plain (OpenSpec.ofChange prioPackedSpec)) prioPackedCard

/-- THE TIED CARD OF 'switchyardkeep.PrioLine'. -/
def prioLineCard : Claim7 := { stood := { row := prioLineRow, standIns := [], harness := (true, "3495814c84ee47c63a415e6707d0c469990dd891aa4aba4f300fe95306feb44c"), looks := true }, kinds := [], alts := [], laidByText := true, laidKinds := [.data, .data, .data, .sentinel, .sentinel], laidTests := true, laidLooks := .later }
def PrioLineCardSaid : Prop := Claim7.holds Tryd.pinned (.plain (OpenSpec.ofChange prioLineSpec)) prioLineCard

/-- THE TIED CARD OF 'switchyardkeep.PrioFirst'. -/
def prioFirstCard : Claim7 := { stood := { row := prioFirstRow, standIns := [], harness := (true, "3495814c84ee47c63a415e6707d0c469990dd891aa4aba4f300fe95306feb44c"), looks := true }, kinds := [], alts := [], laidByText := true, laidKinds := [.data, .data, .data, .sentinel, .sentinel], laidTests := true, laidLooks := .later }
def PrioFirstCardSaid : Prop := Claim7.holds Tryd.pinned (.plain (OpenSpec.ofChange prioFirstSpec)) prioFirstCard

/-- THE TIED CARD OF 'switchyardkeep.PrioTop'. -/
def prioTopCard : Claim7 := { stood := { row := prioTopRow, standIns := [], harness := (true, "3495814c84ee47c63a415e6707d0c469990dd891aa4aba4f300fe95306feb44c"), looks := true }, kinds := [], alts := [], laidByText := true, laidKinds := [.data, .data, .data, .sentinel, .sentinel], laidTests := true, laidLooks := .later }
def PrioTopCardSaid : Prop := Claim7.holds Tryd.pinned (.plain (OpenSpec.ofChange prioTopSpec)) prioTopCard

/-- THE SECOND FORM's CARD OF 'switchyardlaw.PrioPacks'. -/
def prioPacksUptoCard : Claim7 := { stood := { row := prioPacksUptoRow, standIns := [], harness := (true, "3495814c84ee47c63a415e6707d0c469990dd891aa4aba4f300fe95306feb44c"), looks := true }, kinds := [], alts := [], laidByText := true, laidKinds := [.handle], laidTests := true, laidLooks := .later }
def PrioPacksUptoCardSaid : Prop := Claim7.holds Tryd.pinned (.plain (OpenSpec.upto prioPacksSpec)) prioPacksUptoCard

/-- THE SECOND FORM's CARD OF 'switchyardlaw.PrioReads'. -/
def prioReadsUptoCard : Claim7 := { stood := { row := prioReadsUptoRow, standIns := [], harness := (true, "3495814c84ee47c63a415e6707d0c469990dd891aa4aba4f300fe95306feb44c"), looks := true }, kinds := [], alts := [], laidByText := true, laidKinds := [.handle], laidTests := true, laidLooks := .later }
def PrioReadsUptoCardSaid : Prop := Claim7.holds Tryd.pinned (.plain (OpenSpec.upto prioReadsSpec)) prioReadsUptoCard

/-- THE SECOND FORM's CARD OF 'switchyardlaw.PrioTexts'. -/
def prioTextsUptoCard : Claim7 := { stood := { row := prioTextsUptoRow, standIns := [], harness := (true, "3495814c84ee47c63a415e6707d0c469990dd891aa4aba4f300fe95306feb44c"), looks := true }, kinds := [], alts := [], laidByText := true, laidKinds := [.data, .data, .data, .handle, .sentinel, .sentinel], laidTests := true, laidLooks := .later }
def PrioTextsUptoCardSaid : Prop := Claim7.holds Tryd.pinned (.plain (OpenSpec.upto prioTextsSpec)) prioTextsUptoCard

/-- THE SECOND FORM's CARD OF 'switchyardkeep.PrioBack'. -/
def prioBackUptoCard : Claim7 := { stood := { row := prioBackUptoRow, standIns := [], harness := (true, "3495814c84ee47c63a415e6707d0c469990dd891aa4aba4f300fe95306feb44c"), looks := true }, kinds := [], alts := [], laidByText := true, laidKinds := [.data, .data, .data, .sentinel, .sentinel], laidTests := true, laidLooks := .later }
def PrioBackUptoCardSaid : Prop := Claim7.holds Tryd.pinned (.plain (OpenSpec.upto prioBackSpec)) prioBackUptoCard

/-- THE SECOND FORM's CARD OF 'switchyardkeep.PrioPacked'. -/
def prioPackedUptoCard : Claim7 := { stood := { row := prioPackedUptoRow, standIns := [], harness := (true, "3495814c84ee47c63a415e6707d0c469990dd891aa4aba4f300fe95306feb44c"), looks := true }, kinds := [], alts := [], laidByText := true, laidKinds := [.data, .data, .data, .sentinel, .sentinel], laidTests := true, laidLooks := .later }
def PrioPackedUptoCardSaid : Prop := Claim7.holds Tryd.pinned (.plain (OpenSpec.upto prioPackedSpec)) prioPackedUptoCard

/-- THE SECOND FORM's CARD OF 'switchyardkeep.PrioLine'. -/
def prioLineUptoCard : Claim7 := { stood := { row := prioLineUptoRow, standIns := [], harness := (true, "3495814c84ee47c63a415e6707d0c469990dd891aa4aba4f300fe95306feb44c"), looks := true }, kinds := [], alts := [], laidByText := true, laidKinds := [.data, .data, .data, .sentinel, .sentinel], laidTests := true, laidLooks := .later }
def PrioLineUptoCardSaid : Prop := Claim7.holds Tryd.pinned (.plain (OpenSpec.upto prioLineSpec)) prioLineUptoCard

/-- THE SECOND FORM's CARD OF 'switchyardkeep.PrioFirst'. -/
def prioFirstUptoCard : Claim7 := { stood := { row := prioFirstUptoRow, standIns := [], harness := (true, "3495814c84ee47c63a415e6707d0c469990dd891aa4aba4f300fe95306feb44c"), looks := true }, kinds := [], alts := [], laidByText := true, laidKinds := [.data, .data, .data, .sentinel, .sentinel], laidTests := true, laidLooks := .later }
def PrioFirstUptoCardSaid : Prop := Claim7.holds Tryd.pinned (.plain (OpenSpec.upto prioFirstSpec)) prioFirstUptoCard

/-- THE SECOND FORM's CARD OF 'switchyardkeep.PrioTop'. -/
def prioTopUptoCard : Claim7 := { stood := { row := prioTopUptoRow, standIns := [], harness := (true, "3495814c84ee47c63a415e6707d0c469990dd891aa4aba4f300fe95306feb44c"), looks := true }, kinds := [], alts := [], laidByText := true, laidKinds := [.data, .data, .data, .sentinel, .sentinel], laidTests := true, laidLooks := .later }
def PrioTopUptoCardSaid : Prop := Claim7.holds Tryd.pinned (.plain (OpenSpec.upto prioTopSpec)) prioTopUptoCard
end Rows
end Go.Proofs.YtceiiolpggolbaaDoor
