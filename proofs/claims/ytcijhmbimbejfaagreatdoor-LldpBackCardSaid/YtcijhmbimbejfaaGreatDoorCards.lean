/-
  DERIVED. GIVEN WITH THE SEED: THE CARDS: each row of YtcijhmbimbejfaaGreatDoorRows.lean that lists a variable, with what it lists TIED to the program's text (the seventh form; the later family's looks); each row that meets fmt, with fmt's text TOLD by the authors' own Lean function (tested against real Go, not proved from fmt's source: count such statements apart). THE CARD IS WHAT COUNTS. Prove the row's statement (the work); the ties are given (YtcijhmbimbejfaaGreatDoorTie.lean); close each card by the builder's one call (the guide's Derived/Test/ToyasCard.lean, 'card_holds'). Laid BY PROGRAM, IN A SANDBOX (cutbox-door.mjs). By AI agents, Wed Nov 11 2026. No macro, syntax, notation, axiom, sorry.
-/
import Derived.Test.YtcijhmbimbejfaaGreatDoorRows
import GoSem.ClaimSeven
namespace Go.Proofs.YtcijhmbimbejfaaGreatDoor
namespace Rows

/-- THE TIED CARD OF 'switchyardlaw.LldpReads'. -/
def lldpReadsCard : Claim7 := { stood := { row := lldpReadsRow, standIns := [], harness := (true, "94d003f5cd5b2f97bf39d7975816f7d0cf60d6d26fb04942ab2ed1512dcf8c8f"), looks := true }, kinds := [], alts := [], laidByText := true, laidKinds := [.data, .handle, .pinned], laidTests := true, laidLooks := .later }
def LldpReadsCardSaid : Prop := Claim7.holds Tryz.pinned (.plain (OpenSpec.ofChange lldpReadsSpec)) lldpReadsCard

/-- THE TIED CARD OF 'switchyardkeep.LldpBack'. -/
def lldpBackCard : Claim7 := { stood := { row := lldpBackRow, standIns := [], harness := (true, "94d003f5cd5b2f97bf39d7975816f7d0cf60d6d26fb04942ab2ed1512dcf8c8f"), looks := true }, kinds := [], alts := [], laidByText := true, laidKinds := [.data, .handle, .pinned], laidTests := true, laidLooks := .later }
def LldpBackCardSaid : Prop := Claim7.holds Tryz.pinned (.plain (OpenSpec.ofChange lldpBackSpec)) lldpBackCard

/-- THE SECOND FORM's CARD OF 'switchyardlaw.LldpReads'. -/
def lldpReadsUptoCard : Claim7 := { stood := { row := lldpReadsUptoRow, standIns := [], harness := (true, "94d003f5cd5b2f97bf39d7975816f7d0cf60d6d26fb04942ab2ed1512dcf8c8f"), looks := true }, kinds := [], alts := [], laidByText := true, laidKinds := [.data, .handle, .pinned], laidTests := true, laidLooks := .later }
def LldpReadsUptoCardSaid : Prop := Claim7.holds Tryz.pinned (.plain (OpenSpec.upto lldpReadsSpec)) lldpReadsUptoCard

/-- THE SECOND FORM's CARD OF 'switchyardkeep.LldpBack'. -/
def lldpBackUptoCard : Claim7 := { stood := { row := lldpBackUptoRow, standIns := [], harness := (true, "94d003f5cd5b2f97bf39d7975816f7d0cf60d6d26fb04942ab2ed1512dcf8c8f"), looks := true }, kinds := [], alts := [], laidByText := true, laidKinds := [.data, .handle, .pinned], laidTests := true, laidLooks := .later }
def LldpBackUptoCardSaid : Prop := Claim7.holds Tryz.pinned (.plain (OpenSpec.upto lldpBackSpec)) lldpBackUptoCard
end Rows
end Go.Proofs.YtcijhmbimbejfaaGreatDoor
