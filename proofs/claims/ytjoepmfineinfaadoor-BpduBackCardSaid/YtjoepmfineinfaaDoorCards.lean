/-
  DERIVED. GIVEN WITH THE SEED: THE CARDS: each row of YtjoepmfineinfaaDoorRows.lean that lists a variable, with what it lists TIED to the program's text (the seventh form; the later family's looks); each row that meets fmt, with fmt's text TOLD by the authors' own Lean function (tested against real Go, not proved from fmt's source: count such statements apart). THE CARD IS WHAT COUNTS. Prove the row's statement (the work); the ties are given (YtjoepmfineinfaaDoorTie.lean); close each card by the builder's one call (the guide's Derived/Test/ToyasCard.lean, 'card_holds'). Laid BY PROGRAM, IN A SANDBOX (cutbox-door.mjs). By AI agents, Wed Nov 11 2026. No macro, syntax, notation, axiom, sorry.
-/
import Derived.Test.YtjoepmfineinfaaDoorRows
import GoSem.ClaimSeven
namespace Go.Proofs.YtjoepmfineinfaaDoor
namespace Rows

/-- THE TIED CARD OF 'switchyardlaw.ArpReads'. -/
def arpReadsCard : Claim7 := { stood := { row := arpReadsRow, standIns := [], harness := (true, "20c2561465985aace3d653269199db11e42e197dbe68786684f23816d86e5c05"), looks := true }, kinds := [], alts := [], laidByText := true, laidKinds := [.data, .handle, .pinned], laidTests := true, laidLooks := .later }
def ArpReadsCardSaid : Prop := Claim7.holds Tryd.pinned (.plain (OpenSpec.ofChange arpReadsSpec)) arpReadsCard

/-- THE TIED CARD OF 'switchyardkeep.ArpBack'. -/
def arpBackCard : Claim7 := { stood := { row := arpBackRow, standIns := [], harness := (true, "20c2561465985aace3d653269199db11e42e197dbe68786684f23816d86e5c05"), looks := true }, kinds := [], alts := [], laidByText := true, laidKinds := [.data, .pinned], laidTests := true, laidLooks := .later }
def ArpBackCardSaid : Prop := Claim7.holds Tryd.pinned (.plain (OpenSpec.ofChange arpBackSpec)) arpBackCard

/-- THE TIED CARD OF 'switchyardlaw.BpduReads'. -/
def bpduReadsCard : Claim7 := { stood := { row := bpduReadsRow, standIns := [], harness := (true, "20c2561465985aace3d653269199db11e42e197dbe68786684f23816d86e5c05"), looks := true }, kinds := [], alts := [], laidByText := true, laidKinds := [.handle], laidTests := true, laidLooks := .later }
def BpduReadsCardSaid : Prop := Claim7.holds Tryd.pinned (.plain (OpenSpec.ofChange bpduReadsSpec)) bpduReadsCard

/-- THE TIED CARD OF 'switchyardkeep.BpduBack'. -/
def bpduBackCard : Claim7 := { stood := { row := bpduBackRow, standIns := [], harness := (true, "20c2561465985aace3d653269199db11e42e197dbe68786684f23816d86e5c05"), looks := true }, kinds := [], alts := [], laidByText := true, laidKinds := [.handle], laidTests := true, laidLooks := .later }
def BpduBackCardSaid : Prop := Claim7.holds Tryd.pinned (.plain (OpenSpec.ofChange bpduBackSpec)) bpduBackCard

/-- THE TIED CARD OF 'switchyardkeep.BpduStill'. -/
def bpduStillCard : Claim7 := { stood := { row := bpduStillRow, standIns := [], harness := (true, "20c2561465985aace3d653269199db11e42e197dbe68786684f23816d86e5c05"), looks := true }, kinds := [], alts := [], laidByText := true, laidKinds := [.handle], laidTests := true, laidLooks := .later }
def BpduStillCardSaid : Prop := Claim7.holds Tryd.pinned (.plain (OpenSpec.ofChange bpduStillSpec)) bpduStillCard

/-- THE SECOND FORM's CARD OF 'switchyardlaw.ArpReads'. -/
def arpReadsUptoCard : Claim7 := { stood := { row := arpReadsUptoRow, standIns := [], harness := (true, "20c2561465985aace3d653269199db11e42e197dbe68786684f23816d86e5c05"), looks := true }, kinds := [], alts := [], laidByText := true, laidKinds := [.data, .handle, .pinned], laidTests := true, laidLooks := .later }
def ArpReadsUptoCardSaid : Prop := Claim7.holds Tryd.pinned (.plain (OpenSpec.upto arpReadsSpec)) arpReadsUptoCard

/-- THE SECOND FORM's CARD OF 'switchyardkeep.ArpBack'. -/
def arpBackUptoCard : Claim7 := { stood := { row := arpBackUptoRow, standIns := [], harness := (true, "20c2561465985aace3d653269199db11e42e197dbe68786684f23816d86e5c05"), looks := true }, kinds := [], alts := [], laidByText := true, laidKinds := [.data, .pinned], laidTests := true, laidLooks := .later }
def ArpBackUptoCardSaid : Prop := Claim7.holds Tryd.pinned (.plain (OpenSpec.upto arpBackSpec)) arpBackUptoCard

/-- THE SECOND FORM's CARD OF 'switchyardlaw.BpduReads'. -/
def bpduReadsUptoCard : Claim7 := { stood := { row := bpduReadsUptoRow, standIns := [], harness := (true, "20c2561465985aace3d653269199db11e42e197dbe68786684f23816d86e5c05"), looks := true }, kinds := [], alts := [], laidByText := true, laidKinds := [.handle], laidTests := true, laidLooks := .later }
def BpduReadsUptoCardSaid : Prop := Claim7.holds Tryd.pinned (.plain (OpenSpec.upto bpduReadsSpec)) bpduReadsUptoCard

/-- THE SECOND FORM's CARD OF 'switchyardkeep.BpduBack'. -/
def bpduBackUptoCard : Claim7 := { stood := { row := bpduBackUptoRow, standIns := [], harness := (true, "20c2561465985aace3d653269199db11e42e197dbe68786684f23816d86e5c05"), looks := true }, kinds := [], alts := [], laidByText := true, laidKinds := [.handle], laidTests := true, laidLooks := .later }
def BpduBackUptoCardSaid : Prop := Claim7.holds Tryd.pinned (.plain (OpenSpec.upto bpduBackSpec)) bpduBackUptoCard

/-- THE SECOND FORM's CARD OF 'switchyardkeep.BpduStill'. -/
def bpduStillUptoCard : Claim7 := { stood := { row := bpduStillUptoRow, standIns := [], harness := (true, "20c2561465985aace3d653269199db11e42e197dbe68786684f23816d86e5c05"), looks := true }, kinds := [], alts := [], laidByText := true, laidKinds := [.handle], laidTests := true, laidLooks := .later }
def BpduStillUptoCardSaid : Prop := Claim7.holds Tryd.pinned (.plain (OpenSpec.upto bpduStillSpec)) bpduStillUptoCard
end Rows
end Go.Proofs.YtjoepmfineinfaaDoor
