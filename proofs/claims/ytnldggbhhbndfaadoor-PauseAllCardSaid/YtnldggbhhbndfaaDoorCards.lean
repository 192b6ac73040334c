/-
  DERIVED. GIVEN WITH THE SEED: THE CARDS: each row of YtnldggbhhbndfaaDoorRows.lean that lists a variable, with what it lists TIED to the program's text (the seventh form; the later family's looks); each row that meets fmt, with fmt's text TOLD by the authors' own Lean function (tested against real Go, not proved from fmt's source: count such statements apart). THE CARD IS WHAT COUNTS. Prove the row's statement (the work); the ties are given (YtnldggbhhbndfaaDoorTie.lean); close each card by the builder's one call (the guide's Derived/Test/ToyasCard.lean, 'card_holds'). Laid BY PROGRAM, IN A SANDBOX (cutbox-door.mjs). By AI agents, Wed Nov 11 2026. No macro, syntax, notation, axiom, sorry.
-/
import Derived.Test.YtnldggbhhbndfaaDoorRows
import GoSem.ClaimSeven
namespace Go.Proofs.YtnldggbhhbndfaaDoor
namespace Rows

/-- THE TIED CARD OF 'switchyardlaw.ArpWrites'. -/
def arpWritesCard : Claim7 := { stood := { row := arpWritesRow, standIns := [], harness := (true, "3414993b7f9d0211710da96e1981a45b3885c48c509577743261e4f7dbfa0405"), looks := true }, kinds := [], alts := [], laidByText := true, laidKinds := [.handle], laidTests := true, laidLooks := .later }
def ArpWritesCardSaid : Prop := Claim7.holds Tryd.pinned (.plain (OpenSpec.ofChange arpWritesSpec)) arpWritesCard

/-- THE TIED CARD OF 'switchyardlaw.ArpReads'. -/
def arpReadsCard : Claim7 := { stood := { row := arpReadsRow, standIns := [], harness := (true, "3414993b7f9d0211710da96e1981a45b3885c48c509577743261e4f7dbfa0405"), looks := true }, kinds := [], alts := [], laidByText := true, laidKinds := [.data, .handle, .pinned], laidTests := true, laidLooks := .later }
def ArpReadsCardSaid : Prop := Claim7.holds Tryd.pinned (.plain (OpenSpec.ofChange arpReadsSpec)) arpReadsCard

/-- THE TIED CARD OF 'switchyardkeep.ArpBack'. -/
def arpBackCard : Claim7 := { stood := { row := arpBackRow, standIns := [], harness := (true, "3414993b7f9d0211710da96e1981a45b3885c48c509577743261e4f7dbfa0405"), looks := true }, kinds := [], alts := [], laidByText := true, laidKinds := [.data, .pinned], laidTests := true, laidLooks := .later }
def ArpBackCardSaid : Prop := Claim7.holds Tryd.pinned (.plain (OpenSpec.ofChange arpBackSpec)) arpBackCard

/-- THE TIED CARD OF 'switchyardkeep.ArpReply'. -/
def arpReplyCard : Claim7 := { stood := { row := arpReplyRow, standIns := [], harness := (true, "3414993b7f9d0211710da96e1981a45b3885c48c509577743261e4f7dbfa0405"), looks := true }, kinds := [], alts := [], laidByText := true, laidKinds := [.data, .handle, .pinned], laidTests := true, laidLooks := .later }
def ArpReplyCardSaid : Prop := Claim7.holds Tryd.pinned (.plain (OpenSpec.ofChange arpReplySpec)) arpReplyCard

/-- THE TIED CARD OF 'switchyardlaw.PauseWrites'. -/
def pauseWritesCard : Claim7 := { stood := { row := pauseWritesRow, standIns := [], harness := (true, "3414993b7f9d0211710da96e1981a45b3885c48c509577743261e4f7dbfa0405"), looks := true }, kinds := [], alts := [], laidByText := true, laidKinds := [.handle], laidTests := true, laidLooks := .later }
def PauseWritesCardSaid : Prop := Claim7.holds Tryd.pinned (.plain (OpenSpec.ofChange pauseWritesSpec)) pauseWritesCard

/-- THE TIED CARD OF 'switchyardlaw.PauseReads'. -/
def pauseReadsCard : Claim7 := { stood := { row := pauseReadsRow, standIns := [], harness := (true, "3414993b7f9d0211710da96e1981a45b3885c48c509577743261e4f7dbfa0405"), looks := true }, kinds := [], alts := [], laidByText := true, laidKinds := [.data, .handle, .pinned], laidTests := true, laidLooks := .later }
def PauseReadsCardSaid : Prop := Claim7.holds Tryd.pinned (.plain (OpenSpec.ofChange pauseReadsSpec)) pauseReadsCard

/-- THE TIED CARD OF 'switchyardkeep.PauseBack'. -/
def pauseBackCard : Claim7 := { stood := { row := pauseBackRow, standIns := [], harness := (true, "3414993b7f9d0211710da96e1981a45b3885c48c509577743261e4f7dbfa0405"), looks := true }, kinds := [], alts := [], laidByText := true, laidKinds := [.data, .pinned], laidTests := true, laidLooks := .later }
def PauseBackCardSaid : Prop := Claim7.holds Tryd.pinned (.plain (OpenSpec.ofChange pauseBackSpec)) pauseBackCard

/-- THE TIED CARD OF 'switchyardkeep.PauseAll'. -/
def pauseAllCard : Claim7 := { stood := { row := pauseAllRow, standIns := [], harness := (true, "3414993b7f9d0211710da96e1981a45b3885c48c509577743261e4f7dbfa0405"), looks := true }, kinds := [], alts := [], laidByText := true, laidKinds := [.data, .pinned], laidTests := true, laidLooks := .later }
def PauseAllCardSaid : Prop := Claim7.holds Tryd.pinned (.plain (OpenSpec.ofChange pauseAllSpec)) pauseAllCard

/-- THE SECOND FORM's CARD OF 'switchyardlaw.ArpWrites'. -/
def arpWritesUptoCard : Claim7 := { stood := { row := arpWritesUptoRow, standIns := [], harness := (true, "3414993b7f9d0211710da96e1981a45b3885c48c509577743261e4f7dbfa0405"), looks := true }, kinds := [], alts := [], laidByText := true, laidKinds := [.handle], laidTests := true, laidLooks := .later }
def ArpWritesUptoCardSaid : Prop := Claim7.holds Tryd.pinned (.plain (OpenSpec.upto arpWritesSpec)) arpWritesUptoCard

/-- THE SECOND FORM's CARD OF 'switchyardlaw.ArpReads'. -/
def arpReadsUptoCard : Claim7 := { stood := { row := arpReadsUptoRow, standIns := [], harness := (true, "3414993b7f9d0211710da96e1981a45b3885c48c509577743261e4f7dbfa0405"), looks := true }, kinds := [], alts := [], laidByText := true, laidKinds := [.data, .handle, .pinned], laidTests := true, laidLooks := .later }
def ArpReadsUptoCardSaid : Prop := Claim7.holds Tryd.pinned (.plain (OpenSpec.upto arpReadsSpec)) arpReadsUptoCard

/-- THE SECOND FORM's CARD OF 'switchyardkeep.ArpBack'. -/
def arpBackUptoCard : Claim7 := { stood := { row := arpBackUptoRow, standIns := [], harness := (true, "3414993b7f9d0211710da96e1981a45b3885c48c509577743261e4f7dbfa0405"), looks := true }, kinds := [], alts := [], laidByText := true, laidKinds := [.data, .pinned], laidTests := true, laidLooks := .later }
def ArpBackUptoCardSaid : Prop := Claim7.holds Tryd.pinned (.plain (OpenSpec.upto arpBackSpec)) arpBackUptoCard

/-- THE SECOND FORM's CARD OF 'switchyardkeep.ArpReply'. -/
def arpReplyUptoCard : Claim7 := { stood := { row := arpReplyUptoRow, standIns := [], harness := (true, "3414993b7f9d0211710da96e1981a45b3885c48c509577743261e4f7dbfa0405"), looks := true }, kinds := [], alts := [], laidByText := true, laidKinds := [.data, .handle, .pinned], laidTests := true, laidLooks := .later }
def ArpReplyUptoCardSaid : Prop := Claim7.holds Tryd.pinned (.plain (OpenSpec.upto arpReplySpec)) arpReplyUptoCard

/-- THE SECOND FORM's CARD OF 'switchyardlaw.PauseWrites'. -/
def pauseWritesUptoCard : Claim7 := { stood := { row := pauseWritesUptoRow, standIns := [], harness := (true, "3414993b7f9d0211710da96e1981a45b3885c48c509577743261e4f7dbfa0405"), looks := true }, kinds := [], alts := [], laidByText := true, laidKinds := [.handle], laidTests := true, laidLooks := .later }
def PauseWritesUptoCardSaid : Prop := Claim7.holds Tryd.pinned (.plain (OpenSpec.upto pauseWritesSpec)) pauseWritesUptoCard

/-- THE SECOND FORM's CARD OF 'switchyardlaw.PauseReads'. -/
def pauseReadsUptoCard : Claim7 := { stood := { row := pauseReadsUptoRow, standIns := [], harness := (true, "3414993b7f9d0211710da96e1981a45b3885c48c509577743261e4f7dbfa0405"), looks := true }, kinds := [], alts := [], laidByText := true, laidKinds := [.data, .handle, .pinned], laidTests := true, laidLooks := .later }
def PauseReadsUptoCardSaid : Prop := Claim7.holds Tryd.pinned (.plain (OpenSpec.upto pauseReadsSpec)) pauseReadsUptoCard

/-- THE SECOND FORM's CARD OF 'switchyardkeep.PauseBack'. -/
def pauseBackUptoCard : Claim7 := { stood := { row := pauseBackUptoRow, standIns := [], harness := (true, "3414993b7f9d0211710da96e1981a45b3885c48c509577743261e4f7dbfa0405"), looks := true }, kinds := [], alts := [], laidByText := true, laidKinds := [.data, .pinned], laidTests := true, laidLooks := .later }
def PauseBackUptoCardSaid : Prop := Claim7.holds Tryd.pinned (.plain (OpenSpec.upto pauseBackSpec)) pauseBackUptoCard

/-- THE SECOND FORM's CARD OF 'switchyardkeep.PauseAll'. -/
def pauseAllUptoCard : Claim7 := { stood := { row := pauseAllUptoRow, standIns := [], harness := (true, "3414993b7f9d0211710da96e1981a45b3885c48c509577743261e4f7dbfa0405"), looks := true }, kinds := [], alts := [], laidByText := true, laidKinds := [.data, .pinned], laidTests := true, laidLooks := .later }
def PauseAllUptoCardSaid : Prop := Claim7.holds Tryd.pinned (.plain (OpenSpec.upto pauseAllSpec)) pauseAllUptoCard
end Rows
end Go.Proofs.YtnldggbhhbndfaaDoor
