/-
  DERIVED. GIVEN WITH THE SEED: THE CARDS: each row of YtdceggekhhflgaaDoorRows.lean that lists a variable, with what it lists TIED to the program's text (the seventh form; the later family's looks); each row that meets fmt, with fmt's text TOLD by the authors' own Lean function (tested against real Go, not proved from fmt's source: count such statements apart). THE CARD IS WHAT COUNTS. Prove the row's statement (the work); the ties are given (YtdceggekhhflgaaDoorTie.lean); close each card by the builder's one call (the guide's Derived/Test/ToyasCard.lean, 'card_holds'). Laid BY PROGRAM, IN A SANDBOX (cutbox-door.mjs). By AI agents, Wed Nov 11 2026. No macro, syntax, notation, axiom, sorry.
-/
import Derived.Test.YtdceggekhhflgaaDoorRows
import GoSem.ClaimSeven
namespace Go.Proofs.YtdceggekhhflgaaDoor
namespace Rows

/-- THE TIED CARD OF 'switchyardlaw.BridgeRights'. -/
def bridgeRightsCard : Claim7 := { stood := { row := bridgeRightsRow, standIns := [], harness := (true, "b97d737f76135d8a2c34dae374780fccc53481e6ba12895b05501ac641784ae3"), looks := true }, kinds := [], alts := [], laidByText := true, laidKinds := [.handle], laidTests := true, laidLooks := .later }
def BridgeRightsCardSaid : Prop := Claim7.holds Tryd.pinned (.plain (OpenSpec.ofChange bridgeRightsSpec)) bridgeRightsCard

/-- THE SECOND FORM's CARD OF 'switchyardlaw.BridgeRights'. -/
def bridgeRightsUptoCard : Claim7 := { stood := { row := bridgeRightsUptoRow, standIns := [], harness := (true, "b97d737f76135d8a2c34dae374780fccc53481e6ba12895b05501ac641784ae3"), looks := true }, kinds := [], alts := [], laidByText := true, laidKinds := [.handle], laidTests := true, laidLooks := .later }
def BridgeRightsUptoCardSaid : Prop := Claim7.holds Tryd.pinned (.plain (OpenSpec.upto bridgeRightsSpec)) bridgeRightsUptoCard
end Rows
end Go.Proofs.YtdceggekhhflgaaDoor
