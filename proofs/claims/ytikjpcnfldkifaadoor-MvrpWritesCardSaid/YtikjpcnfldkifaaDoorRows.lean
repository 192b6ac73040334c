/-
  NARROWER THAN 'FOR EVERY INPUT', by the rows' own cells (each row's printed sentence says how): MvrpWrites: laid · MvrpReads: laid · MvrpPacks: laid · MvrpCut: laid · MvrpBack: laid · MvrpStill: laid · MvrpFewest: laid · MvrpJoins: laid.
  DERIVED. THE GIVEN ROWS OF THIS SEAT. 8 by the template 'for every input the law returns true; each argument reads behind the call as it read before'; 0 by the template 'total and deterministic' (their statements: YtikjpcnfldkifaaDoorTotals.lean).
  GIVEN WITH THE SEED: the statements are not yours to turn. If you find one false, say at which input.
  Laid BY PROGRAM, IN A SANDBOX (cutbox-rows.mjs): the forced cells as the released guide's own fill.sh prints them over the translation 60d0cfaf65ccec6d… (all of the seat's roots in one cut). By AI agents, Wed Nov 11 2026. No macro, syntax, notation, axiom, sorry.
-/
import Derived.Test.YtikjpcnfldkifaaDoorChecked
import GoSem.PinnedTables
import GoSem.Claim
import GoSem.ClaimJoined
import GoSem.ClaimMapViews
import Derived.JoinedTies
import Derived.KernelRfl
namespace Go.Proofs.YtikjpcnfldkifaaDoor
/- THE CELL 'sum', in the pinned program and in every row, IS THE sha256 OF THE DUMP (.gsa) THAT YtikjpcnfldkifaaDoorProg.lean LOADS. Nothing in Lean hashes anything: it is a label: what it is worth is what the hold of that sum in a sandbox is worth. -/
noncomputable def Tryd.pinned : Pinned := { name := "ytikjpcnfldkifaadoor", sum := "60d0cfaf65ccec6db77e93f22914a2e2a6323c8e069a2e47eedeb7b10727b2f3", checked := Tryd.checked }
namespace Rows
def none {H : Type} : Left H := { results := [], args := [] }

/- WHAT THE LISTED PACKAGE-LEVEL VARIABLES READ AS WHEN THE CALL BEGINS. Each datum BY PROGRAM (the guide's laid-datum.mjs) off the statement by which the dump's own 'gosem.cut.vars' lays the variable. In a bare row this is a premise. The card (YtikjpcnfldkifaaDoorCards.lean) ties it to the program's text. -/
def laid_errors_errorType {H : Type} : DataW H := .iface "internal/reflectlite.rtype" (.agg [.ptr (.lit (.string [101, 114, 114, 111, 114]))])
def laid_unicode_utf8_acceptRanges {H : Type} : DataW H := .agg [.agg [.lit (.int .u8 128), .lit (.int .u8 191)], .agg [.lit (.int .u8 160), .lit (.int .u8 191)], .agg [.lit (.int .u8 128), .lit (.int .u8 159)], .agg [.lit (.int .u8 144), .lit (.int .u8 191)], .agg [.lit (.int .u8 128), .lit (.int .u8 143)], .agg [.lit (.int .u8 0), .lit (.int .u8 0)], .agg [.lit (.int .u8 0), .lit (.int .u8 0)], .agg [.lit (.int .u8 0), .lit (.int .u8 0)], .agg [.lit (.int .u8 0), .lit (.int .u8 0)], .agg [.lit (.int .u8 0), .lit (.int .u8 0)], .agg [.lit (.int .u8 0), .lit (.int .u8 0)], .agg [.lit (.int .u8 0), .lit (.int .u8 0)], .agg [.lit (.int .u8 0), .lit (.int .u8 0)], .agg [.lit (.int .u8 0), .lit (.int .u8 0)], .agg [.lit (.int .u8 0), .lit (.int .u8 0)], .agg [.lit (.int .u8 0), .lit (.int .u8 0)]]
/-- One of Go's own tables, pinned by name: the form's constant. -/
def laid_unicode_utf8_first : DataW Unit := Go.Pinned.utf8First

/-- 'switchyardlaw.MvrpWrites': WHATEVER THE INPUT: true; the input reads as it did. -/
def mvrpWritesSpec : ChangeSpec := { name := "mvrpWrites", fn := fun _ => fun
  | [d] => { results := [.lit (.bool true)], args := [d] }
  | _ => none }
def mvrpWritesRow : OpenClaim := { program := "ytikjpcnfldkifaadoor", sum := "60d0cfaf65ccec6db77e93f22914a2e2a6323c8e069a2e47eedeb7b10727b2f3", func := "switchyard/switchyardlaw.MvrpWrites", spec := "mvrpWrites", inPlace := ["internal/abi.NoEscape", "internal/reflectlite.ValueOf", "(internal/reflectlite.Value).Type", "(internal/reflectlite.Value).IsNil", "internal/reflectlite.TypeOf", "(internal/reflectlite.Value).Elem", "(internal/reflectlite.Value).Set"], unfollowed := true, recurses := true, named := ["errors.errorType"], apart := false, laid := [("errors.errorType", laid_errors_errorType)] }
def MvrpWritesSaid : Prop := mvrpWritesRow.holds Tryd.pinned (OpenSpec.ofChange mvrpWritesSpec)

/-- ITS FALSE NEIGHBOUR: 'it returns false'. Refute it at one input. -/
def mvrpWritesWrong : ChangeSpec := { name := "mvrpWrites", fn := fun _ => fun
  | [d] => { results := [.lit (.bool false)], args := [d] }
  | _ => none }
def MvrpWritesWrongFalsely : Prop := mvrpWritesRow.holds Tryd.pinned (OpenSpec.ofChange mvrpWritesWrong)

/-- 'switchyardlaw.MvrpReads': WHATEVER THE INPUT: true; the input reads as it did. -/
def mvrpReadsSpec : ChangeSpec := { name := "mvrpReads", fn := fun _ => fun
  | [d] => { results := [.lit (.bool true)], args := [d] }
  | _ => none }
def mvrpReadsRow : OpenClaim := { program := "ytikjpcnfldkifaadoor", sum := "60d0cfaf65ccec6db77e93f22914a2e2a6323c8e069a2e47eedeb7b10727b2f3", func := "switchyard/switchyardlaw.MvrpReads", spec := "mvrpReads", inPlace := ["internal/bytealg.IndexByteString", "internal/bytealg.IndexString", "internal/reflectlite.ValueOf", "(internal/reflectlite.Value).Type", "(internal/reflectlite.Value).IsNil", "internal/reflectlite.TypeOf", "(internal/reflectlite.Value).Elem", "(internal/reflectlite.Value).Set"], unfollowed := true, recurses := true, named := ["unicode/utf8.first", "unicode/utf8.acceptRanges", "errors.errorType", "internal/bytealg.MaxLen"], apart := false, laid := [("unicode/utf8.acceptRanges", laid_unicode_utf8_acceptRanges), ("errors.errorType", laid_errors_errorType), ("unicode/utf8.first", laid_unicode_utf8_first)] }
def MvrpReadsSaid : Prop := mvrpReadsRow.holds Tryd.pinned (OpenSpec.ofChange mvrpReadsSpec)

/-- ITS FALSE NEIGHBOUR: 'it returns false'. Refute it at one input. -/
def mvrpReadsWrong : ChangeSpec := { name := "mvrpReads", fn := fun _ => fun
  | [d] => { results := [.lit (.bool false)], args := [d] }
  | _ => none }
def MvrpReadsWrongFalsely : Prop := mvrpReadsRow.holds Tryd.pinned (OpenSpec.ofChange mvrpReadsWrong)

/-- 'switchyardlaw.MvrpPacks': WHATEVER THE INPUT: true; the input reads as it did. -/
def mvrpPacksSpec : ChangeSpec := { name := "mvrpPacks", fn := fun _ => fun
  | [d1, d2] => { results := [.lit (.bool true)], args := [d1, d2] }
  | _ => none }
def mvrpPacksRow : OpenClaim := { program := "ytikjpcnfldkifaadoor", sum := "60d0cfaf65ccec6db77e93f22914a2e2a6323c8e069a2e47eedeb7b10727b2f3", func := "switchyard/switchyardlaw.MvrpPacks", spec := "mvrpPacks", inPlace := ["internal/reflectlite.ValueOf", "(internal/reflectlite.Value).Type", "(internal/reflectlite.Value).IsNil", "internal/reflectlite.TypeOf", "(internal/reflectlite.Value).Elem", "(internal/reflectlite.Value).Set"], unfollowed := true, recurses := true, named := ["errors.errorType"], apart := false, laid := [("errors.errorType", laid_errors_errorType)] }
def MvrpPacksSaid : Prop := mvrpPacksRow.holds Tryd.pinned (OpenSpec.ofChange mvrpPacksSpec)

/-- ITS FALSE NEIGHBOUR: 'it returns false'. Refute it at one input. -/
def mvrpPacksWrong : ChangeSpec := { name := "mvrpPacks", fn := fun _ => fun
  | [d1, d2] => { results := [.lit (.bool false)], args := [d1, d2] }
  | _ => none }
def MvrpPacksWrongFalsely : Prop := mvrpPacksRow.holds Tryd.pinned (OpenSpec.ofChange mvrpPacksWrong)

/-- 'switchyardkeep.MvrpCut': WHATEVER THE INPUT: true; the input reads as it did. -/
def mvrpCutSpec : ChangeSpec := { name := "mvrpCut", fn := fun _ => fun
  | [d1, d2] => { results := [.lit (.bool true)], args := [d1, d2] }
  | _ => none }
def mvrpCutRow : OpenClaim := { program := "ytikjpcnfldkifaadoor", sum := "60d0cfaf65ccec6db77e93f22914a2e2a6323c8e069a2e47eedeb7b10727b2f3", func := "switchyard/switchyardkeep.MvrpCut", spec := "mvrpCut", inPlace := ["internal/abi.NoEscape", "internal/bytealg.IndexByteString", "internal/bytealg.IndexString", "internal/reflectlite.ValueOf", "(internal/reflectlite.Value).Type", "(internal/reflectlite.Value).IsNil", "internal/reflectlite.TypeOf", "(internal/reflectlite.Value).Elem", "(internal/reflectlite.Value).Set"], unfollowed := true, recurses := true, named := ["unicode/utf8.first", "unicode/utf8.acceptRanges", "errors.errorType", "internal/bytealg.MaxLen"], apart := false, laid := [("unicode/utf8.acceptRanges", laid_unicode_utf8_acceptRanges), ("errors.errorType", laid_errors_errorType), ("unicode/utf8.first", laid_unicode_utf8_first)] }
def MvrpCutSaid : Prop := mvrpCutRow.holds Tryd.pinned (OpenSpec.ofChange mvrpCutSpec)

/-- ITS FALSE NEIGHBOUR: 'it returns false'. Refute it at one input. -/
def mvrpCutWrong : ChangeSpec := { name := "mvrpCut", fn := fun _ => fun
  | [d1, d2] => { results := [.lit (.bool false)], args := [d1, d2] }
  | _ => none }
def MvrpCutWrongFalsely : Prop := mvrpCutRow.holds Tryd.pinned (OpenSpec.ofChange mvrpCutWrong)

/-- 'switchyardkeep.MvrpBack': WHATEVER THE INPUT: true; the input reads as it did. -/
def mvrpBackSpec : ChangeSpec := { name := "mvrpBack", fn := fun _ => fun
  | [d] => { results := [.lit (.bool true)], args := [d] }
  | _ => none }
def mvrpBackRow : OpenClaim := { program := "ytikjpcnfldkifaadoor", sum := "60d0cfaf65ccec6db77e93f22914a2e2a6323c8e069a2e47eedeb7b10727b2f3", func := "switchyard/switchyardkeep.MvrpBack", spec := "mvrpBack", inPlace := ["internal/abi.NoEscape", "internal/bytealg.IndexByteString", "internal/bytealg.IndexString"], unfollowed := true, recurses := true, named := ["unicode/utf8.first", "unicode/utf8.acceptRanges", "internal/bytealg.MaxLen"], apart := false, laid := [("unicode/utf8.acceptRanges", laid_unicode_utf8_acceptRanges), ("unicode/utf8.first", laid_unicode_utf8_first)] }
def MvrpBackSaid : Prop := mvrpBackRow.holds Tryd.pinned (OpenSpec.ofChange mvrpBackSpec)

/-- ITS FALSE NEIGHBOUR: 'it returns false'. Refute it at one input. -/
def mvrpBackWrong : ChangeSpec := { name := "mvrpBack", fn := fun _ => fun
  | [d] => { results := [.lit (.bool false)], args := [d] }
  | _ => none }
def MvrpBackWrongFalsely : Prop := mvrpBackRow.holds Tryd.pinned (OpenSpec.ofChange mvrpBackWrong)

/-- 'switchyardkeep.MvrpStill': WHATEVER THE INPUT: true; the input reads as it did. -/
def mvrpStillSpec : ChangeSpec := { name := "mvrpStill", fn := fun _ => fun
  | [d] => { results := [.lit (.bool true)], args := [d] }
  | _ => none }
def mvrpStillRow : OpenClaim := { program := "ytikjpcnfldkifaadoor", sum := "60d0cfaf65ccec6db77e93f22914a2e2a6323c8e069a2e47eedeb7b10727b2f3", func := "switchyard/switchyardkeep.MvrpStill", spec := "mvrpStill", inPlace := ["internal/abi.NoEscape", "internal/bytealg.IndexByteString", "internal/bytealg.IndexString"], unfollowed := true, recurses := true, named := ["unicode/utf8.first", "unicode/utf8.acceptRanges", "internal/bytealg.MaxLen"], apart := false, laid := [("unicode/utf8.acceptRanges", laid_unicode_utf8_acceptRanges), ("unicode/utf8.first", laid_unicode_utf8_first)] }
def MvrpStillSaid : Prop := mvrpStillRow.holds Tryd.pinned (OpenSpec.ofChange mvrpStillSpec)

/-- ITS FALSE NEIGHBOUR: 'it returns false'. Refute it at one input. -/
def mvrpStillWrong : ChangeSpec := { name := "mvrpStill", fn := fun _ => fun
  | [d] => { results := [.lit (.bool false)], args := [d] }
  | _ => none }
def MvrpStillWrongFalsely : Prop := mvrpStillRow.holds Tryd.pinned (OpenSpec.ofChange mvrpStillWrong)

/-- 'switchyardkeep.MvrpFewest': WHATEVER THE INPUT: true; the input reads as it did. -/
def mvrpFewestSpec : ChangeSpec := { name := "mvrpFewest", fn := fun _ => fun
  | [d] => { results := [.lit (.bool true)], args := [d] }
  | _ => none }
def mvrpFewestRow : OpenClaim := { program := "ytikjpcnfldkifaadoor", sum := "60d0cfaf65ccec6db77e93f22914a2e2a6323c8e069a2e47eedeb7b10727b2f3", func := "switchyard/switchyardkeep.MvrpFewest", spec := "mvrpFewest", inPlace := ["internal/abi.NoEscape", "internal/bytealg.IndexByteString", "internal/bytealg.IndexString", "internal/reflectlite.ValueOf", "(internal/reflectlite.Value).Type", "(internal/reflectlite.Value).IsNil", "internal/reflectlite.TypeOf", "(internal/reflectlite.Value).Elem", "(internal/reflectlite.Value).Set"], unfollowed := true, recurses := true, named := ["unicode/utf8.first", "unicode/utf8.acceptRanges", "errors.errorType", "internal/bytealg.MaxLen"], apart := false, laid := [("unicode/utf8.acceptRanges", laid_unicode_utf8_acceptRanges), ("errors.errorType", laid_errors_errorType), ("unicode/utf8.first", laid_unicode_utf8_first)] }
def MvrpFewestSaid : Prop := mvrpFewestRow.holds Tryd.pinned (OpenSpec.ofChange mvrpFewestSpec)

/-- ITS FALSE NEIGHBOUR: 'it returns false'. Refute it at one input. -/
def mvrpFewestWrong : ChangeSpec := { name := "mvrpFewest", fn := fun _ => fun
  | [d] => { results := [.lit (.bool false)], args := [d] }
  | _ => none }
def MvrpFewestWrongFalsely : Prop := mvrpFewestRow.holds Tryd.pinned (OpenSpec.ofChange mvrpFewestWrong)

/-- 'switchyardkeep.MvrpJoins': WHATEVER THE INPUT: true; the input reads as it did. -/
def mvrpJoinsSpec : ChangeSpec := { name := "mvrpJoins", fn := fun _ => fun
  | [d1, d2] => { results := [.lit (.bool true)], args := [d1, d2] }
  | _ => none }
def mvrpJoinsRow : OpenClaim := { program := "ytikjpcnfldkifaadoor", sum := "60d0cfaf65ccec6db77e93f22914a2e2a6323c8e069a2e47eedeb7b10727b2f3", func := "switchyard/switchyardkeep.MvrpJoins", spec := "mvrpJoins", inPlace := ["internal/abi.NoEscape", "internal/bytealg.IndexByteString", "internal/bytealg.IndexString"], unfollowed := true, recurses := true, named := ["unicode/utf8.first", "unicode/utf8.acceptRanges", "internal/bytealg.MaxLen"], apart := false, laid := [("unicode/utf8.acceptRanges", laid_unicode_utf8_acceptRanges), ("unicode/utf8.first", laid_unicode_utf8_first)] }
def MvrpJoinsSaid : Prop := mvrpJoinsRow.holds Tryd.pinned (OpenSpec.ofChange mvrpJoinsSpec)

/-- ITS FALSE NEIGHBOUR: 'it returns false'. Refute it at one input. -/
def mvrpJoinsWrong : ChangeSpec := { name := "mvrpJoins", fn := fun _ => fun
  | [d1, d2] => { results := [.lit (.bool false)], args := [d1, d2] }
  | _ => none }
def MvrpJoinsWrongFalsely : Prop := mvrpJoinsRow.holds Tryd.pinned (OpenSpec.ofChange mvrpJoinsWrong)

/- THE SECOND FORM. 'bulk': how many values and letters a reading holds, each counted each time it is reached (what is shared counts as often as it is met; a slice's spare places count too). A statement '..UptoSaid' is the law's where the arguments, and the package variables that the reading takes, are together of bulk at most 1048576: NARROWER than '..Said'. Prove '..Said' where nothing that the law and all that it calls make is longer than what came in: it says more and counts as full. Else prove '..UptoSaid'. A law counts once. -/
mutual
def uptoBulk {H : Type} : DataW H → Nat
  | .lit (.string bytes) => bytes.length + 1
  | .lit _ => 1
  | .nil => 1
  | .ptr d => uptoBulk d + 1
  | .slice elems spare => uptoBulkAll elems + uptoBulkAll spare + 1
  | .agg parts => uptoBulkAll parts + 1
  | .iface _ d => uptoBulk d + 1
  | .map entries => uptoBulkEntries entries + 1
  | .held _ => 1
def uptoBulkAll {H : Type} : List (DataW H) → Nat
  | [] => 0
  | d :: r => uptoBulk d + uptoBulkAll r
def uptoBulkEntries {H : Type} : List (Lit × DataW H) → Nat
  | [] => 0
  | x :: r => uptoBulkEntry x + uptoBulkEntries r
def uptoBulkEntry {H : Type} : Lit × DataW H → Nat
  | (.string bytes, d) => bytes.length + uptoBulk d + 1
  | (_, d) => uptoBulk d + 1
 end
def uptoSmall : (H : Type) → List (DataW H) → Bool := fun _ ds => decide (uptoBulkAll ds ≤ 1048576)
def OpenSpec.upto (s : _root_.Go.ChangeSpec) : _root_.Go.OpenSpec := { _root_.Go.OpenSpec.ofChange s with cond := some uptoSmall }

/-- 'switchyardlaw.MvrpWrites', WHERE WHAT IT READS IS OF BULK AT MOST 1048576: true; the input reads as it did. -/
def mvrpWritesUptoRow : OpenClaim := { program := "ytikjpcnfldkifaadoor", sum := "60d0cfaf65ccec6db77e93f22914a2e2a6323c8e069a2e47eedeb7b10727b2f3", func := "switchyard/switchyardlaw.MvrpWrites", spec := "mvrpWrites", inPlace := ["internal/abi.NoEscape", "internal/reflectlite.ValueOf", "(internal/reflectlite.Value).Type", "(internal/reflectlite.Value).IsNil", "internal/reflectlite.TypeOf", "(internal/reflectlite.Value).Elem", "(internal/reflectlite.Value).Set"], unfollowed := true, recurses := true, named := ["errors.errorType"], apart := false, laid := [("errors.errorType", laid_errors_errorType)], narrowed := true }
def MvrpWritesUptoSaid : Prop := mvrpWritesUptoRow.holds Tryd.pinned (OpenSpec.upto mvrpWritesSpec)

/-- 'switchyardlaw.MvrpReads', WHERE WHAT IT READS IS OF BULK AT MOST 1048576: true; the input reads as it did. -/
def mvrpReadsUptoRow : OpenClaim := { program := "ytikjpcnfldkifaadoor", sum := "60d0cfaf65ccec6db77e93f22914a2e2a6323c8e069a2e47eedeb7b10727b2f3", func := "switchyard/switchyardlaw.MvrpReads", spec := "mvrpReads", inPlace := ["internal/bytealg.IndexByteString", "internal/bytealg.IndexString", "internal/reflectlite.ValueOf", "(internal/reflectlite.Value).Type", "(internal/reflectlite.Value).IsNil", "internal/reflectlite.TypeOf", "(internal/reflectlite.Value).Elem", "(internal/reflectlite.Value).Set"], unfollowed := true, recurses := true, named := ["unicode/utf8.first", "unicode/utf8.acceptRanges", "errors.errorType", "internal/bytealg.MaxLen"], apart := false, laid := [("unicode/utf8.acceptRanges", laid_unicode_utf8_acceptRanges), ("errors.errorType", laid_errors_errorType), ("unicode/utf8.first", laid_unicode_utf8_first)], narrowed := true }
def MvrpReadsUptoSaid : Prop := mvrpReadsUptoRow.holds Tryd.pinned (OpenSpec.upto mvrpReadsSpec)

/-- 'switchyardlaw.MvrpPacks', WHERE WHAT IT READS IS OF BULK AT MOST 1048576: true; the input reads as it did. -/
def mvrpPacksUptoRow : OpenClaim := { program := "ytikjpcnfldkifaadoor", sum := "60d0cfaf65ccec6db77e93f22914a2e2a6323c8e069a2e47eedeb7b10727b2f3", func := "switchyard/switchyardlaw.MvrpPacks", spec := "mvrpPacks", inPlace := ["internal/reflectlite.ValueOf", "(internal/reflectlite.Value).Type", "(internal/reflectlite.Value).IsNil", "internal/reflectlite.TypeOf", "(internal/reflectlite.Value).Elem", "(internal/reflectlite.Value).Set"], unfollowed := true, recurses := true, named := ["errors.errorType"], apart := false, laid := [("errors.errorType", laid_errors_errorType)], narrowed := true }
def MvrpPacksUptoSaid : Prop := mvrpPacksUptoRow.holds Tryd.pinned (OpenSpec.upto mvrpPacksSpec)

/-- 'switchyardkeep.MvrpCut', WHERE WHAT IT READS IS OF BULK AT MOST 1048576: true; the input reads as it did. -/
def mvrpCutUptoRow : OpenClaim := { program := "ytikjpcnfldkifaadoor", sum := "60d0cfaf65ccec6db77e93f22914a2e2a6323c8e069a2e47eedeb7b10727b2f3", func := "switchyard/switchyardkeep.MvrpCut", spec := "mvrpCut", inPlace := ["internal/abi.NoEscape", "internal/bytealg.IndexByteString", "internal/bytealg.IndexString", "internal/reflectlite.ValueOf", "(internal/reflectlite.Value).Type", "(internal/reflectlite.Value).IsNil", "internal/reflectlite.TypeOf", "(internal/reflectlite.Value).Elem", "(internal/reflectlite.Value).Set"], unfollowed := true, recurses := true, named := ["unicode/utf8.first", "unicode/utf8.acceptRanges", "errors.errorType", "internal/bytealg.MaxLen"], apart := false, laid := [("unicode/utf8.acceptRanges", laid_unicode_utf8_acceptRanges), ("errors.errorType", laid_errors_errorType), ("unicode/utf8.first", laid_unicode_utf8_first)], narrowed := true }
def MvrpCutUptoSaid : Prop := mvrpCutUptoRow.holds Tryd.pinned (OpenSpec.upto mvrpCutSpec)

/-- 'switchyardkeep.MvrpBack', WHERE WHAT IT READS IS OF BULK AT MOST 1048576: true; the input reads as it did. -/
def mvrpBackUptoRow : OpenClaim := { program := "ytikjpcnfldkifaadoor", sum := "60d0cfaf65ccec6db77e93f22914a2e2a6323c8e069a2e47eedeb7b10727b2f3", func := "switchyard/switchyardkeep.MvrpBack", spec := "mvrpBack", inPlace := ["internal/abi.NoEscape", "internal/bytealg.IndexByteString", "internal/bytealg.IndexString"], unfollowed := true, recurses := true, named := ["unicode/utf8.first", "unicode/utf8.acceptRanges", "internal/bytealg.MaxLen"], apart := false, laid := [("unicode/utf8.acceptRanges", laid_unicode_utf8_acceptRanges), ("unicode/utf8.first", laid_unicode_utf8_first)], narrowed := true }
def MvrpBackUptoSaid : Prop := mvrpBackUptoRow.holds Tryd.pinned (OpenSpec.upto mvrpBackSpec)

/-- 'switchyardkeep.MvrpStill', WHERE WHAT IT READS IS OF BULK AT MOST 1048576: true; the input reads as it did. -/
def mvrpStillUptoRow : OpenClaim := { program := "ytikjpcnfldkifaadoor", sum := "60d0cfaf65ccec6db77e93f22914a2e2a6323c8e069a2e47eedeb7b10727b2f3", func := "switchyard/switchyardkeep.MvrpStill", spec := "mvrpStill", inPlace := ["internal/abi.NoEscape", "internal/bytealg.IndexByteString", "internal/bytealg.IndexString"], unfollowed := true, recurses := true, named := ["unicode/utf8.first", "unicode/utf8.acceptRanges", "internal/bytealg.MaxLen"], apart := false, laid := [("unicode/utf8.acceptRanges", laid_unicode_utf8_acceptRanges), ("unicode/utf8.first", laid_unicode_utf8_first)], narrowed := true }
def MvrpStillUptoSaid : Prop := mvrpStillUptoRow.holds Tryd.pinned (OpenSpec.upto mvrpStillSpec)

/-- 'switchyardkeep.MvrpFewest', WHERE WHAT IT READS IS OF BULK AT MOST 1048576: true; the input reads as it did. -/
def mvrpFewestUptoRow : OpenClaim := { program := "ytikjpcnfldkifaadoor", sum := "60d0cfaf65ccec6db77e93f22914a2e2a6323c8e069a2e47eedeb7b10727b2f3", func := "switchyard/switchyardkeep.MvrpFewest", spec := "mvrpFewest", inPlace := ["internal/abi.NoEscape", "internal/bytealg.IndexByteString", "internal/bytealg.IndexString", "internal/reflectlite.ValueOf", "(internal/reflectlite.Value).Type", "(internal/reflectlite.Value).IsNil", "internal/reflectlite.TypeOf", "(internal/reflectlite.Value).Elem", "(internal/reflectlite.Value).Set"], unfollowed := true, recurses := true, named := ["unicode/utf8.first", "unicode/utf8.acceptRanges", "errors.errorType", "internal/bytealg.MaxLen"], apart := false, laid := [("unicode/utf8.acceptRanges", laid_unicode_utf8_acceptRanges), ("errors.errorType", laid_errors_errorType), ("unicode/utf8.first", laid_unicode_utf8_first)], narrowed := true }
def MvrpFewestUptoSaid : Prop := mvrpFewestUptoRow.holds Tryd.pinned (OpenSpec.upto mvrpFewestSpec)

/-- 'switchyardkeep.MvrpJoins', WHERE WHAT IT READS IS OF BULK AT MOST 1048576: true; the input reads as it did. -/
def mvrpJoinsUptoRow : OpenClaim := { program := "ytikjpcnfldkifaadoor", sum := "60d0cfaf65ccec6db77e93f22914a2e2a6323c8e069a2e47eedeb7b10727b2f3", func := "switchyard/switchyardkeep.MvrpJoins", spec := "mvrpJoins", inPlace := ["internal/abi.NoEscape", "internal/bytealg.IndexByteString", "internal/bytealg.IndexString"], unfollowed := true, recurses := true, named := ["unicode/utf8.first", "unicode/utf8.acceptRanges", "internal/bytealg.MaxLen"], apart := false, laid := [("unicode/utf8.acceptRanges", laid_unicode_utf8_acceptRanges), ("unicode/utf8.first", laid_unicode_utf8_first)], narrowed := true }
def MvrpJoinsUptoSaid : Prop := mvrpJoinsUptoRow.holds Tryd.pinned (OpenSpec.upto mvrpJoinsSpec)

end Rows
end Go.Proofs.YtikjpcnfldkifaaDoor
