/-
  DERIVED. GIVEN WITH THE SEED: THE CARDS: each row of YticjmjoiggnblaaDoorRows.lean that lists a variable, with what it lists TIED to the program's text (the seventh form; the later family's looks); each row that meets fmt, with fmt's text TOLD by the authors' own Lean function (tested against real Go, not proved from fmt's source: count such statements apart). THE CARD IS WHAT COUNTS. Prove the row's statement (the work); the ties are given (YticjmjoiggnblaaDoorTie.lean); close each card by the builder's one call (the guide's Derived/Test/ToyasCard.lean, 'card_holds'). Laid BY PROGRAM, IN A SANDBOX (cutbox-door.mjs). By AI agents, Wed Nov 11 2026. No macro, syntax, notation, axiom, sorry.
-/
import Derived.Test.YticjmjoiggnblaaDoorRows
import GoSem.ClaimSeven
namespace Go.Proofs.YticjmjoiggnblaaDoor
namespace Rows

/-- THE TIED CARD OF 'switchyardlaw.TlvWrites'. -/
def tlvWritesCard : Claim7 := { stood := { row := tlvWritesRow, standIns := [], harness := (true, "4a31824b01947449ff1c9f720544c3ed92d130f0e634bda837a1fd95c850c130"), looks := true }, kinds := [], alts := [], laidByText := true, laidKinds := [.handle], laidTests := true, laidLooks := .later }
def TlvWritesCardSaid : Prop := Claim7.holds Tryd.pinned (.plain (OpenSpec.ofChange tlvWritesSpec)) tlvWritesCard

/-- THE TIED CARD OF 'switchyardlaw.TlvReads'. -/
def tlvReadsCard : Claim7 := { stood := { row := tlvReadsRow, standIns := [], harness := (true, "4a31824b01947449ff1c9f720544c3ed92d130f0e634bda837a1fd95c850c130"), looks := true }, kinds := [], alts := [], laidByText := true, laidKinds := [.data, .handle, .pinned], laidTests := true, laidLooks := .later }
def TlvReadsCardSaid : Prop := Claim7.holds Tryd.pinned (.plain (OpenSpec.ofChange tlvReadsSpec)) tlvReadsCard

/-- THE TIED CARD OF 'switchyardkeep.TlvBack'. -/
def tlvBackCard : Claim7 := { stood := { row := tlvBackRow, standIns := [], harness := (true, "4a31824b01947449ff1c9f720544c3ed92d130f0e634bda837a1fd95c850c130"), looks := true }, kinds := [], alts := [], laidByText := true, laidKinds := [.data, .pinned], laidTests := true, laidLooks := .later }
def TlvBackCardSaid : Prop := Claim7.holds Tryd.pinned (.plain (OpenSpec.ofChange tlvBackSpec)) tlvBackCard

/-- THE TIED CARD OF 'switchyardkeep.TlvJoins'. -/
def tlvJoinsCard : Claim7 := { stood := { row := tlvJoinsRow, standIns := [], harness := (true, "4a31824b01947449ff1c9f720544c3ed92d130f0e634bda837a1fd95c850c130"), looks := true }, kinds := [], alts := [], laidByText := true, laidKinds := [.data, .pinned], laidTests := true, laidLooks := .later }
def TlvJoinsCardSaid : Prop := Claim7.holds Tryd.pinned (.plain (OpenSpec.ofChange tlvJoinsSpec)) tlvJoinsCard

/-- THE TIED CARD OF 'switchyardlaw.LldpWrites'. -/
def lldpWritesCard : Claim7 := { stood := { row := lldpWritesRow, standIns := [], harness := (true, "4a31824b01947449ff1c9f720544c3ed92d130f0e634bda837a1fd95c850c130"), looks := true }, kinds := [], alts := [], laidByText := true, laidKinds := [.handle], laidTests := true, laidLooks := .later }
def LldpWritesCardSaid : Prop := Claim7.holds Tryd.pinned (.plain (OpenSpec.ofChange lldpWritesSpec)) lldpWritesCard

/-- THE TIED CARD OF 'switchyardkeep.LldpMore'. -/
def lldpMoreCard : Claim7 := { stood := { row := lldpMoreRow, standIns := [], harness := (true, "4a31824b01947449ff1c9f720544c3ed92d130f0e634bda837a1fd95c850c130"), looks := true }, kinds := [], alts := [], laidByText := true, laidKinds := [.data, .pinned], laidTests := true, laidLooks := .later }
def LldpMoreCardSaid : Prop := Claim7.holds Tryd.pinned (.plain (OpenSpec.ofChange lldpMoreSpec)) lldpMoreCard

/-- THE TIED CARD OF 'switchyardkeep.LldpStill'. -/
def lldpStillCard : Claim7 := { stood := { row := lldpStillRow, standIns := [], harness := (true, "4a31824b01947449ff1c9f720544c3ed92d130f0e634bda837a1fd95c850c130"), looks := true }, kinds := [], alts := [], laidByText := true, laidKinds := [.data, .pinned], laidTests := true, laidLooks := .later }
def LldpStillCardSaid : Prop := Claim7.holds Tryd.pinned (.plain (OpenSpec.ofChange lldpStillSpec)) lldpStillCard

/-- THE TIED CARD OF 'switchyardkeep.LldpOrder'. -/
def lldpOrderCard : Claim7 := { stood := { row := lldpOrderRow, standIns := [], harness := (true, "4a31824b01947449ff1c9f720544c3ed92d130f0e634bda837a1fd95c850c130"), looks := true }, kinds := [], alts := [], laidByText := true, laidKinds := [.data, .pinned], laidTests := true, laidLooks := .later }
def LldpOrderCardSaid : Prop := Claim7.holds Tryd.pinned (.plain (OpenSpec.ofChange lldpOrderSpec)) lldpOrderCard

/-- THE SECOND FORM's CARD OF 'switchyardlaw.TlvWrites'. -/
def tlvWritesUptoCard : Claim7 := { stood := { row := tlvWritesUptoRow, standIns := [], harness := (true, "4a31824b01947449ff1c9f720544c3ed92d130f0e634bda837a1fd95c850c130"), looks := true }, kinds := [], alts := [], laidByText := true, laidKinds := [.handle], laidTests := true, laidLooks := .later }
def TlvWritesUptoCardSaid : Prop := Claim7.holds Tryd.pinned (.plain (OpenSpec.upto tlvWritesSpec)) tlvWritesUptoCard

/-- THE SECOND FORM's CARD OF 'switchyardlaw.TlvReads'. -/
def tlvReadsUptoCard : Claim7 := { stood := { row := tlvReadsUptoRow, standIns := [], harness := (true, "4a31824b01947449ff1c9f720544c3ed92d130f0e634bda837a1fd95c850c130"), looks := true }, kinds := [], alts := [], laidByText := true, laidKinds := [.data, .handle, .pinned], laidTests := true, laidLooks := .later }
def TlvReadsUptoCardSaid : Prop := Claim7.holds Tryd.pinned (.plain (OpenSpec.upto tlvReadsSpec)) tlvReadsUptoCard

/-- THE SECOND FORM's CARD OF 'switchyardkeep.TlvBack'. -/
def tlvBackUptoCard : Claim7 := { stood := { row := tlvBackUptoRow, standIns := [], harness := (true, "4a31824b01947449ff1c9f720544c3ed92d130f0e634bda837a1fd95c850c130"), looks := true }, kinds := [], alts := [], laidByText := true, laidKinds := [.data, .pinned], laidTests := true, laidLooks := .later }
def TlvBackUptoCardSaid : Prop := Claim7.holds Tryd.pinned (.plain (OpenSpec.upto tlvBackSpec)) tlvBackUptoCard

/-- THE SECOND FORM's CARD OF 'switchyardkeep.TlvJoins'. -/
def tlvJoinsUptoCard : Claim7 := { stood := { row := tlvJoinsUptoRow, standIns := [], harness := (true, "4a31824b01947449ff1c9f720544c3ed92d130f0e634bda837a1fd95c850c130"), looks := true }, kinds := [], alts := [], laidByText := true, laidKinds := [.data, .pinned], laidTests := true, laidLooks := .later }
def TlvJoinsUptoCardSaid : Prop := Claim7.holds Tryd.pinned (.plain (OpenSpec.upto tlvJoinsSpec)) tlvJoinsUptoCard

/-- THE SECOND FORM's CARD OF 'switchyardlaw.LldpWrites'. -/
def lldpWritesUptoCard : Claim7 := { stood := { row := lldpWritesUptoRow, standIns := [], harness := (true, "4a31824b01947449ff1c9f720544c3ed92d130f0e634bda837a1fd95c850c130"), looks := true }, kinds := [], alts := [], laidByText := true, laidKinds := [.handle], laidTests := true, laidLooks := .later }
def LldpWritesUptoCardSaid : Prop := Claim7.holds Tryd.pinned (.plain (OpenSpec.upto lldpWritesSpec)) lldpWritesUptoCard

/-- THE SECOND FORM's CARD OF 'switchyardkeep.LldpMore'. -/
def lldpMoreUptoCard : Claim7 := { stood := { row := lldpMoreUptoRow, standIns := [], harness := (true, "4a31824b01947449ff1c9f720544c3ed92d130f0e634bda837a1fd95c850c130"), looks := true }, kinds := [], alts := [], laidByText := true, laidKinds := [.data, .pinned], laidTests := true, laidLooks := .later }
def LldpMoreUptoCardSaid : Prop := Claim7.holds Tryd.pinned (.plain (OpenSpec.upto lldpMoreSpec)) lldpMoreUptoCard

/-- THE SECOND FORM's CARD OF 'switchyardkeep.LldpStill'. -/
def lldpStillUptoCard : Claim7 := { stood := { row := lldpStillUptoRow, standIns := [], harness := (true, "4a31824b01947449ff1c9f720544c3ed92d130f0e634bda837a1fd95c850c130"), looks := true }, kinds := [], alts := [], laidByText := true, laidKinds := [.data, .pinned], laidTests := true, laidLooks := .later }
def LldpStillUptoCardSaid : Prop := Claim7.holds Tryd.pinned (.plain (OpenSpec.upto lldpStillSpec)) lldpStillUptoCard

/-- THE SECOND FORM's CARD OF 'switchyardkeep.LldpOrder'. -/
def lldpOrderUptoCard : Claim7 := { stood := { row := lldpOrderUptoRow, standIns := [], harness := (true, "4a31824b01947449ff1c9f720544c3ed92d130f0e634bda837a1fd95c850c130"), looks := true }, kinds := [], alts := [], laidByText := true, laidKinds := [.data, .pinned], laidTests := true, laidLooks := .later }
def LldpOrderUptoCardSaid : Prop := Claim7.holds Tryd.pinned (.plain (OpenSpec.upto lldpOrderSpec)) lldpOrderUptoCard
end Rows
end Go.Proofs.YticjmjoiggnblaaDoor
