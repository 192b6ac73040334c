/-
  DERIVED. GIVEN WITH THE SEED: THE CARDS: each row of YtgeiiengieonfaaDoorRows.lean that lists a variable, with what it lists TIED to the program's text (the seventh form; the later family's looks); each row that meets fmt, with fmt's text TOLD by the authors' own Lean function (tested against real Go, not proved from fmt's source: count such statements apart). THE CARD IS WHAT COUNTS. Prove the row's statement (the work); the ties are given (YtgeiiengieonfaaDoorTie.lean); close each card by the builder's one call (the guide's Derived/Test/ToyasCard.lean, 'card_holds'). Laid BY PROGRAM, IN A SANDBOX (cutbox-door.mjs). By AI agents, Wed Nov 11 2026. No macro, syntax, notation, axiom, sorry.
-/
import Derived.Test.YtgeiiengieonfaaDoorRows
import GoSem.ClaimSeven
namespace Go.Proofs.YtgeiiengieonfaaDoor
namespace Rows

/-- THE TIED CARD OF 'switchyardkeep.LearnTime'. -/
def learnTimeCard : Claim7 := { stood := { row := learnTimeRow, standIns := [], harness := (true, "a0ea0b7e4ffc0a8885914aa2c9ba6808aebfa79201a7fa1c45cbaf5c2e841fdb"), looks := true }, kinds := [], alts := [], laidByText := true, laidKinds := [.handle], laidTests := true, laidLooks := .later }
def LearnTimeCardSaid : Prop := Claim7.holds Tryd.pinned (.plain (OpenSpec.ofChange learnTimeSpec)) learnTimeCard

/-- THE TIED CARD OF 'switchyardlaw.LearnKeeps'. -/
def learnKeepsCard : Claim7 := { stood := { row := learnKeepsRow, standIns := [], harness := (true, "a0ea0b7e4ffc0a8885914aa2c9ba6808aebfa79201a7fa1c45cbaf5c2e841fdb"), looks := true }, kinds := [], alts := [], laidByText := true, laidKinds := [.handle], laidTests := true, laidLooks := .later }
def LearnKeepsCardSaid : Prop := Claim7.holds Tryd.pinned (.plain (OpenSpec.ofChange learnKeepsSpec)) learnKeepsCard

/-- THE SECOND FORM's CARD OF 'switchyardkeep.LearnTime'. -/
def learnTimeUptoCard : Claim7 := { stood := { row := learnTimeUptoRow, standIns := [], harness := (true, "a0ea0b7e4ffc0a8885914aa2c9ba6808aebfa79201a7fa1c45cbaf5c2e841fdb"), looks := true }, kinds := [], alts := [], laidByText := true, laidKinds := [.handle], laidTests := true, laidLooks := .later }
def LearnTimeUptoCardSaid : Prop := Claim7.holds Tryd.pinned (.plain (OpenSpec.upto learnTimeSpec)) learnTimeUptoCard

/-- THE SECOND FORM's CARD OF 'switchyardlaw.LearnKeeps'. -/
def learnKeepsUptoCard : Claim7 := { stood := { row := learnKeepsUptoRow, standIns := [], harness := (true, "a0ea0b7e4ffc0a8885914aa2c9ba6808aebfa79201a7fa1c45cbaf5c2e841fdb"), looks := true }, kinds := [], alts := [], laidByText := true, laidKinds := [.handle], laidTests := true, laidLooks := .later }
def LearnKeepsUptoCardSaid : Prop := Claim7.holds Tryd.pinned (.plain (OpenSpec.upto learnKeepsSpec)) learnKeepsUptoCard
end Rows
end Go.Proofs.YtgeiiengieonfaaDoor
