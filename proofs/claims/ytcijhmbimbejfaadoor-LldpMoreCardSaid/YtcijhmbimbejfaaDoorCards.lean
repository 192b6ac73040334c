/-
  DERIVED. GIVEN WITH THE SEED: THE CARDS: each row of YtcijhmbimbejfaaDoorRows.lean that lists a variable, with what it lists TIED to the program's text (the seventh form; the later family's looks); each row that meets fmt, with fmt's text TOLD by the authors' own Lean function (tested against real Go, not proved from fmt's source: count such statements apart). THE CARD IS WHAT COUNTS. Prove the row's statement (the work); the ties are given (YtcijhmbimbejfaaDoorTie.lean); close each card by the builder's one call (the guide's Derived/Test/ToyasCard.lean, 'card_holds'). Laid BY PROGRAM, IN A SANDBOX (cutbox-door.mjs). By AI agents, Wed Nov 11 2026. No macro, syntax, notation, axiom, sorry.
-/
import Derived.Test.YtcijhmbimbejfaaDoorRows
import GoSem.ClaimSeven
namespace Go.Proofs.YtcijhmbimbejfaaDoor
namespace Rows

/-- THE TIED CARD OF 'switchyardkeep.LldpMore'. -/
def lldpMoreCard : Claim7 := { stood := { row := lldpMoreRow, standIns := [], harness := (true, "c77ed563b79869a2c68795a18b52f090f784bd480bd55b1f5afa63bab1f2da03"), looks := false }, kinds := [], alts := [], laidByText := true, laidKinds := [.data, .pinned], laidTests := true, laidLooks := .later }
def LldpMoreCardSaid : Prop := Claim7.holds Tryd.pinned (.plain (OpenSpec.ofChange lldpMoreSpec)) lldpMoreCard

/-- THE TIED CARD OF 'switchyardkeep.LldpStill'. -/
def lldpStillCard : Claim7 := { stood := { row := lldpStillRow, standIns := [], harness := (true, "c77ed563b79869a2c68795a18b52f090f784bd480bd55b1f5afa63bab1f2da03"), looks := false }, kinds := [], alts := [], laidByText := true, laidKinds := [.data, .pinned], laidTests := true, laidLooks := .later }
def LldpStillCardSaid : Prop := Claim7.holds Tryd.pinned (.plain (OpenSpec.ofChange lldpStillSpec)) lldpStillCard

/-- THE TIED CARD OF 'switchyardkeep.LldpOrder'. -/
def lldpOrderCard : Claim7 := { stood := { row := lldpOrderRow, standIns := [], harness := (true, "c77ed563b79869a2c68795a18b52f090f784bd480bd55b1f5afa63bab1f2da03"), looks := false }, kinds := [], alts := [], laidByText := true, laidKinds := [.data, .pinned], laidTests := true, laidLooks := .later }
def LldpOrderCardSaid : Prop := Claim7.holds Tryd.pinned (.plain (OpenSpec.ofChange lldpOrderSpec)) lldpOrderCard

/-- THE SECOND FORM's CARD OF 'switchyardkeep.LldpMore'. -/
def lldpMoreUptoCard : Claim7 := { stood := { row := lldpMoreUptoRow, standIns := [], harness := (true, "c77ed563b79869a2c68795a18b52f090f784bd480bd55b1f5afa63bab1f2da03"), looks := false }, kinds := [], alts := [], laidByText := true, laidKinds := [.data, .pinned], laidTests := true, laidLooks := .later }
def LldpMoreUptoCardSaid : Prop := Claim7.holds Tryd.pinned (.plain (OpenSpec.upto lldpMoreSpec)) lldpMoreUptoCard

/-- THE SECOND FORM's CARD OF 'switchyardkeep.LldpStill'. -/
def lldpStillUptoCard : Claim7 := { stood := { row := lldpStillUptoRow, standIns := [], harness := (true, "c77ed563b79869a2c68795a18b52f090f784bd480bd55b1f5afa63bab1f2da03"), looks := false }, kinds := [], alts := [], laidByText := true, laidKinds := [.data, .pinned], laidTests := true, laidLooks := .later }
def LldpStillUptoCardSaid : Prop := Claim7.holds Tryd.pinned (.plain (OpenSpec.upto lldpStillSpec)) lldpStillUptoCard

/-- THE SECOND FORM's CARD OF 'switchyardkeep.LldpOrder'. -/
def lldpOrderUptoCard : Claim7 := { stood := { row := lldpOrderUptoRow, standIns := [], harness := (true, "c77ed563b79869a2c68795a18b52f090f784bd480bd55b1f5afa63bab1f2da03"), looks := false }, kinds := [], alts := [], laidByText := true, laidKinds := [.data, .pinned], laidTests := true, laidLooks := .later }
def LldpOrderUptoCardSaid : Prop := Claim7.holds Tryd.pinned (.plain (OpenSpec.upto lldpOrderSpec)) lldpOrderUptoCard
end Rows
end Go.Proofs.YtcijhmbimbejfaaDoor
