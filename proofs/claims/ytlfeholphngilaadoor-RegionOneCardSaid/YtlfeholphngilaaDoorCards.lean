/-
  DERIVED. GIVEN WITH THE SEED: THE CARDS: each row of YtlfeholphngilaaDoorRows.lean that lists a variable, with what it lists TIED to the program's text (the seventh form; the later family's looks); each row that meets fmt, with fmt's text TOLD by the authors' own Lean function (tested against real Go, not proved from fmt's source: count such statements apart). THE CARD IS WHAT COUNTS. Prove the row's statement (the work); the ties are given (YtlfeholphngilaaDoorTie.lean); close each card by the builder's one call (the guide's Derived/Test/ToyasCard.lean, 'card_holds'). Laid BY PROGRAM, IN A SANDBOX (cutbox-door.mjs). By AI agents, Wed Nov 11 2026. No macro, syntax, notation, axiom, sorry.
-/
import Derived.Test.YtlfeholphngilaaDoorRows
import GoSem.ClaimSeven
namespace Go.Proofs.YtlfeholphngilaaDoor
namespace Rows

/-- THE TIED CARD OF 'switchyardlaw.Md5Sums'. -/
def md5SumsCard : Claim7 := { stood := { row := md5SumsRow, standIns := [], harness := (true, "02b1f04a1b4a91f30a370930c349b72c0fb0b176927558b6de50472f351b2167"), looks := true }, kinds := [], alts := [], laidByText := true, laidKinds := [.data, .data, .data, .sentinel, .sentinel, .data, .data], laidTests := true, laidLooks := .later }
def Md5SumsCardSaid : Prop := Claim7.holds Tryd.pinned (.plain (OpenSpec.ofChange md5SumsSpec)) md5SumsCard

/-- THE TIED CARD OF 'switchyardkeep.Md5Keys'. -/
def md5KeysCard : Claim7 := { stood := { row := md5KeysRow, standIns := [], harness := (true, "02b1f04a1b4a91f30a370930c349b72c0fb0b176927558b6de50472f351b2167"), looks := true }, kinds := [], alts := [], laidByText := true, laidKinds := [.data, .data], laidTests := true, laidLooks := .later }
def Md5KeysCardSaid : Prop := Claim7.holds Tryd.pinned (.plain (OpenSpec.ofChange md5KeysSpec)) md5KeysCard

/-- THE TIED CARD OF 'switchyardkeep.Md5Long'. -/
def md5LongCard : Claim7 := { stood := { row := md5LongRow, standIns := [], harness := (true, "02b1f04a1b4a91f30a370930c349b72c0fb0b176927558b6de50472f351b2167"), looks := true }, kinds := [], alts := [], laidByText := true, laidKinds := [.data, .data], laidTests := true, laidLooks := .later }
def Md5LongCardSaid : Prop := Claim7.holds Tryd.pinned (.plain (OpenSpec.ofChange md5LongSpec)) md5LongCard

/-- THE TIED CARD OF 'switchyardlaw.RegionRights'. -/
def regionRightsCard : Claim7 := { stood := { row := regionRightsRow, standIns := [], harness := (true, "02b1f04a1b4a91f30a370930c349b72c0fb0b176927558b6de50472f351b2167"), looks := true }, kinds := [], alts := [], laidByText := true, laidKinds := [.handle], laidTests := true, laidLooks := .later }
def RegionRightsCardSaid : Prop := Claim7.holds Tryd.pinned (.plain (OpenSpec.ofChange regionRightsSpec)) regionRightsCard

/-- THE TIED CARD OF 'switchyardkeep.RegionLeast'. -/
def regionLeastCard : Claim7 := { stood := { row := regionLeastRow, standIns := [], harness := (true, "02b1f04a1b4a91f30a370930c349b72c0fb0b176927558b6de50472f351b2167"), looks := true }, kinds := [], alts := [], laidByText := true, laidKinds := [.data, .data], laidTests := true, laidLooks := .later }
def RegionLeastCardSaid : Prop := Claim7.holds Tryd.pinned (.plain (OpenSpec.ofChange regionLeastSpec)) regionLeastCard

/-- THE TIED CARD OF 'switchyardkeep.RegionOne'. -/
def regionOneCard : Claim7 := { stood := { row := regionOneRow, standIns := [], harness := (true, "02b1f04a1b4a91f30a370930c349b72c0fb0b176927558b6de50472f351b2167"), looks := true }, kinds := [], alts := [], laidByText := true, laidKinds := [.data, .data], laidTests := true, laidLooks := .later }
def RegionOneCardSaid : Prop := Claim7.holds Tryd.pinned (.plain (OpenSpec.ofChange regionOneSpec)) regionOneCard

/-- THE TIED CARD OF 'switchyardkeep.RegionTables'. -/
def regionTablesCard : Claim7 := { stood := { row := regionTablesRow, standIns := [], harness := (true, "02b1f04a1b4a91f30a370930c349b72c0fb0b176927558b6de50472f351b2167"), looks := true }, kinds := [], alts := [], laidByText := true, laidKinds := [.data, .data], laidTests := true, laidLooks := .later }
def RegionTablesCardSaid : Prop := Claim7.holds Tryd.pinned (.plain (OpenSpec.ofChange regionTablesSpec)) regionTablesCard

/-- THE SECOND FORM's CARD OF 'switchyardlaw.Md5Sums'. -/
def md5SumsUptoCard : Claim7 := { stood := { row := md5SumsUptoRow, standIns := [], harness := (true, "02b1f04a1b4a91f30a370930c349b72c0fb0b176927558b6de50472f351b2167"), looks := true }, kinds := [], alts := [], laidByText := true, laidKinds := [.data, .data, .data, .sentinel, .sentinel, .data, .data], laidTests := true, laidLooks := .later }
def Md5SumsUptoCardSaid : Prop := Claim7.holds Tryd.pinned (.plain (OpenSpec.upto md5SumsSpec)) md5SumsUptoCard

/-- THE SECOND FORM's CARD OF 'switchyardkeep.Md5Keys'. -/
def md5KeysUptoCard : Claim7 := { stood := { row := md5KeysUptoRow, standIns := [], harness := (true, "02b1f04a1b4a91f30a370930c349b72c0fb0b176927558b6de50472f351b2167"), looks := true }, kinds := [], alts := [], laidByText := true, laidKinds := [.data, .data], laidTests := true, laidLooks := .later }
def Md5KeysUptoCardSaid : Prop := Claim7.holds Tryd.pinned (.plain (OpenSpec.upto md5KeysSpec)) md5KeysUptoCard

/-- THE SECOND FORM's CARD OF 'switchyardkeep.Md5Long'. -/
def md5LongUptoCard : Claim7 := { stood := { row := md5LongUptoRow, standIns := [], harness := (true, "02b1f04a1b4a91f30a370930c349b72c0fb0b176927558b6de50472f351b2167"), looks := true }, kinds := [], alts := [], laidByText := true, laidKinds := [.data, .data], laidTests := true, laidLooks := .later }
def Md5LongUptoCardSaid : Prop := Claim7.holds Tryd.pinned (.plain (OpenSpec.upto md5LongSpec)) md5LongUptoCard

/-- THE SECOND FORM's CARD OF 'switchyardlaw.RegionRights'. -/
def regionRightsUptoCard : Claim7 := { stood := { row := regionRightsUptoRow, standIns := [], harness := (true, "02b1f04a1b4a91f30a370930c349b72c0fb0b176927558b6de50472f351b2167"), looks := true }, kinds := [], alts := [], laidByText := true, laidKinds := [.handle], laidTests := true, laidLooks := .later }
def RegionRightsUptoCardSaid : Prop := Claim7.holds Tryd.pinned (.plain (OpenSpec.upto regionRightsSpec)) regionRightsUptoCard

/-- THE SECOND FORM's CARD OF 'switchyardkeep.RegionLeast'. -/
def regionLeastUptoCard : Claim7 := { stood := { row := regionLeastUptoRow, standIns := [], harness := (true, "02b1f04a1b4a91f30a370930c349b72c0fb0b176927558b6de50472f351b2167"), looks := true }, kinds := [], alts := [], laidByText := true, laidKinds := [.data, .data], laidTests := true, laidLooks := .later }
def RegionLeastUptoCardSaid : Prop := Claim7.holds Tryd.pinned (.plain (OpenSpec.upto regionLeastSpec)) regionLeastUptoCard

/-- THE SECOND FORM's CARD OF 'switchyardkeep.RegionOne'. -/
def regionOneUptoCard : Claim7 := { stood := { row := regionOneUptoRow, standIns := [], harness := (true, "02b1f04a1b4a91f30a370930c349b72c0fb0b176927558b6de50472f351b2167"), looks := true }, kinds := [], alts := [], laidByText := true, laidKinds := [.data, .data], laidTests := true, laidLooks := .later }
def RegionOneUptoCardSaid : Prop := Claim7.holds Tryd.pinned (.plain (OpenSpec.upto regionOneSpec)) regionOneUptoCard

/-- THE SECOND FORM's CARD OF 'switchyardkeep.RegionTables'. -/
def regionTablesUptoCard : Claim7 := { stood := { row := regionTablesUptoRow, standIns := [], harness := (true, "02b1f04a1b4a91f30a370930c349b72c0fb0b176927558b6de50472f351b2167"), looks := true }, kinds := [], alts := [], laidByText := true, laidKinds := [.data, .data], laidTests := true, laidLooks := .later }
def RegionTablesUptoCardSaid : Prop := Claim7.holds Tryd.pinned (.plain (OpenSpec.upto regionTablesSpec)) regionTablesUptoCard
end Rows
end Go.Proofs.YtlfeholphngilaaDoor
