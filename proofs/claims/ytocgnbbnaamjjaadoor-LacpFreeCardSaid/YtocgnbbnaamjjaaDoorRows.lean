/-
  NARROWER THAN 'FOR EVERY INPUT', by the rows' own cells (each row's printed sentence says how): LacpWrites: laid · MarkerWrites: laid · LacpSides: laid · LacpBack: laid · LacpFree: laid · MarkerBack: laid.
  DERIVED. THE GIVEN ROWS OF THIS SEAT. 6 by the template 'for every input the law returns true; each argument reads behind the call as it read before'; 0 by the template 'total and deterministic' (their statements: YtocgnbbnaamjjaaDoorTotals.lean).
  GIVEN WITH THE SEED: the statements are not yours to turn. If you find one false, say at which input.
  Laid BY PROGRAM, IN A SANDBOX (cutbox-rows.mjs): the forced cells as the released guide's own fill.sh prints them over the translation 119ad202808f0419… (all of the seat's roots in one cut). By AI agents, Wed Nov 11 2026. No macro, syntax, notation, axiom, sorry.
-/
import Derived.Test.YtocgnbbnaamjjaaDoorChecked
import GoSem.PinnedTables
import GoSem.Claim
import GoSem.ClaimJoined
import GoSem.ClaimMapViews
import Derived.JoinedTies
import Derived.KernelRfl
namespace Go.Proofs.YtocgnbbnaamjjaaDoor
/- THE CELL 'sum', in the pinned program and in every row, IS THE sha256 OF THE DUMP (.gsa) THAT YtocgnbbnaamjjaaDoorProg.lean LOADS. Nothing in Lean hashes anything: it is a label: what it is worth is what the hold of that sum in a sandbox is worth. -/
noncomputable def Tryd.pinned : Pinned := { name := "ytocgnbbnaamjjaadoor", sum := "119ad202808f04196eaf542f1b70f51824444814ab16c25860f0da5086381541", checked := Tryd.checked }
namespace Rows
def none {H : Type} : Left H := { results := [], args := [] }

/- WHAT THE LISTED PACKAGE-LEVEL VARIABLES READ AS WHEN THE CALL BEGINS. Each datum BY PROGRAM (the guide's laid-datum.mjs) off the statement by which the dump's own 'gosem.cut.vars' lays the variable. In a bare row this is a premise. The card (YtocgnbbnaamjjaaDoorCards.lean) ties it to the program's text. -/
def laid_errors_errorType {H : Type} : DataW H := .iface "internal/reflectlite.rtype" (.agg [.ptr (.lit (.string [101, 114, 114, 111, 114]))])
def laid_unicode_utf8_acceptRanges {H : Type} : DataW H := .agg [.agg [.lit (.int .u8 128), .lit (.int .u8 191)], .agg [.lit (.int .u8 160), .lit (.int .u8 191)], .agg [.lit (.int .u8 128), .lit (.int .u8 159)], .agg [.lit (.int .u8 144), .lit (.int .u8 191)], .agg [.lit (.int .u8 128), .lit (.int .u8 143)], .agg [.lit (.int .u8 0), .lit (.int .u8 0)], .agg [.lit (.int .u8 0), .lit (.int .u8 0)], .agg [.lit (.int .u8 0), .lit (.int .u8 0)], .agg [.lit (.int .u8 0), .lit (.int .u8 0)], .agg [.lit (.int .u8 0), .lit (.int .u8 0)], .agg [.lit (.int .u8 0), .lit (.int .u8 0)], .agg [.lit (.int .u8 0), .lit (.int .u8 0)], .agg [.lit (.int .u8 0), .lit (.int .u8 0)], .agg [.lit (.int .u8 0), .lit (.int .u8 0)], .agg [.lit (.int .u8 0), .lit (.int .u8 0)], .agg [.lit (.int .u8 0), .lit (.int .u8 0)]]
/-- One of Go's own tables, pinned by name: the form's constant. -/
def laid_unicode_utf8_first : DataW Unit := Go.Pinned.utf8First

/-- 'switchyardlaw.LacpWrites': WHATEVER THE INPUT: true; the input reads as it did. -/
def lacpWritesSpec : ChangeSpec := { name := "lacpWrites", fn := fun _ => fun
  | [d] => { results := [.lit (.bool true)], args := [d] }
  | _ => none }
def lacpWritesRow : OpenClaim := { program := "ytocgnbbnaamjjaadoor", sum := "119ad202808f04196eaf542f1b70f51824444814ab16c25860f0da5086381541", func := "switchyard/switchyardlaw.LacpWrites", spec := "lacpWrites", inPlace := ["internal/abi.NoEscape", "internal/bytealg.MakeNoZero", "internal/reflectlite.ValueOf", "(internal/reflectlite.Value).Type", "(internal/reflectlite.Value).IsNil", "internal/reflectlite.TypeOf", "(internal/reflectlite.Value).Elem", "(internal/reflectlite.Value).Set"], unfollowed := true, recurses := true, named := ["errors.errorType"], apart := false, laid := [("errors.errorType", laid_errors_errorType)] }
def LacpWritesSaid : Prop := lacpWritesRow.holds Tryd.pinned (OpenSpec.ofChange lacpWritesSpec)

/-- ITS FALSE NEIGHBOUR: 'it returns false'. Refute it at one input. -/
def lacpWritesWrong : ChangeSpec := { name := "lacpWrites", fn := fun _ => fun
  | [d] => { results := [.lit (.bool false)], args := [d] }
  | _ => none }
def LacpWritesWrongFalsely : Prop := lacpWritesRow.holds Tryd.pinned (OpenSpec.ofChange lacpWritesWrong)

/-- 'switchyardlaw.MarkerWrites': WHATEVER THE INPUT: true; the input reads as it did. -/
def markerWritesSpec : ChangeSpec := { name := "markerWrites", fn := fun _ => fun
  | [d] => { results := [.lit (.bool true)], args := [d] }
  | _ => none }
def markerWritesRow : OpenClaim := { program := "ytocgnbbnaamjjaadoor", sum := "119ad202808f04196eaf542f1b70f51824444814ab16c25860f0da5086381541", func := "switchyard/switchyardlaw.MarkerWrites", spec := "markerWrites", inPlace := ["internal/abi.NoEscape", "internal/bytealg.MakeNoZero", "internal/reflectlite.ValueOf", "(internal/reflectlite.Value).Type", "(internal/reflectlite.Value).IsNil", "internal/reflectlite.TypeOf", "(internal/reflectlite.Value).Elem", "(internal/reflectlite.Value).Set"], unfollowed := true, recurses := true, named := ["errors.errorType"], apart := false, laid := [("errors.errorType", laid_errors_errorType)] }
def MarkerWritesSaid : Prop := markerWritesRow.holds Tryd.pinned (OpenSpec.ofChange markerWritesSpec)

/-- ITS FALSE NEIGHBOUR: 'it returns false'. Refute it at one input. -/
def markerWritesWrong : ChangeSpec := { name := "markerWrites", fn := fun _ => fun
  | [d] => { results := [.lit (.bool false)], args := [d] }
  | _ => none }
def MarkerWritesWrongFalsely : Prop := markerWritesRow.holds Tryd.pinned (OpenSpec.ofChange markerWritesWrong)

/-- 'switchyardkeep.LacpSides': WHATEVER THE INPUT: true; the input reads as it did. -/
def lacpSidesSpec : ChangeSpec := { name := "lacpSides", fn := fun _ => fun
  | [d] => { results := [.lit (.bool true)], args := [d] }
  | _ => none }
def lacpSidesRow : OpenClaim := { program := "ytocgnbbnaamjjaadoor", sum := "119ad202808f04196eaf542f1b70f51824444814ab16c25860f0da5086381541", func := "switchyard/switchyardkeep.LacpSides", spec := "lacpSides", inPlace := ["internal/abi.NoEscape", "internal/bytealg.MakeNoZero", "internal/bytealg.IndexByteString", "internal/bytealg.IndexString"], named := ["unicode/utf8.first", "unicode/utf8.acceptRanges", "internal/bytealg.MaxLen"], apart := false, laid := [("unicode/utf8.acceptRanges", laid_unicode_utf8_acceptRanges), ("unicode/utf8.first", laid_unicode_utf8_first)] }
def LacpSidesSaid : Prop := lacpSidesRow.holds Tryd.pinned (OpenSpec.ofChange lacpSidesSpec)

/-- ITS FALSE NEIGHBOUR: 'it returns false'. Refute it at one input. -/
def lacpSidesWrong : ChangeSpec := { name := "lacpSides", fn := fun _ => fun
  | [d] => { results := [.lit (.bool false)], args := [d] }
  | _ => none }
def LacpSidesWrongFalsely : Prop := lacpSidesRow.holds Tryd.pinned (OpenSpec.ofChange lacpSidesWrong)

/-- 'switchyardkeep.LacpBack': WHATEVER THE INPUT: true; the input reads as it did. -/
def lacpBackSpec : ChangeSpec := { name := "lacpBack", fn := fun _ => fun
  | [d] => { results := [.lit (.bool true)], args := [d] }
  | _ => none }
def lacpBackRow : OpenClaim := { program := "ytocgnbbnaamjjaadoor", sum := "119ad202808f04196eaf542f1b70f51824444814ab16c25860f0da5086381541", func := "switchyard/switchyardkeep.LacpBack", spec := "lacpBack", inPlace := ["internal/abi.NoEscape", "internal/bytealg.MakeNoZero", "internal/bytealg.IndexByteString", "internal/bytealg.IndexString", "internal/reflectlite.ValueOf", "(internal/reflectlite.Value).Type", "(internal/reflectlite.Value).IsNil", "internal/reflectlite.TypeOf", "(internal/reflectlite.Value).Elem", "(internal/reflectlite.Value).Set"], unfollowed := true, recurses := true, named := ["unicode/utf8.first", "unicode/utf8.acceptRanges", "errors.errorType", "internal/bytealg.MaxLen"], apart := false, laid := [("unicode/utf8.acceptRanges", laid_unicode_utf8_acceptRanges), ("errors.errorType", laid_errors_errorType), ("unicode/utf8.first", laid_unicode_utf8_first)] }
def LacpBackSaid : Prop := lacpBackRow.holds Tryd.pinned (OpenSpec.ofChange lacpBackSpec)

/-- ITS FALSE NEIGHBOUR: 'it returns false'. Refute it at one input. -/
def lacpBackWrong : ChangeSpec := { name := "lacpBack", fn := fun _ => fun
  | [d] => { results := [.lit (.bool false)], args := [d] }
  | _ => none }
def LacpBackWrongFalsely : Prop := lacpBackRow.holds Tryd.pinned (OpenSpec.ofChange lacpBackWrong)

/-- 'switchyardkeep.LacpFree': WHATEVER THE INPUT: true; the input reads as it did. -/
def lacpFreeSpec : ChangeSpec := { name := "lacpFree", fn := fun _ => fun
  | [d1, d2, d3] => { results := [.lit (.bool true)], args := [d1, d2, d3] }
  | _ => none }
def lacpFreeRow : OpenClaim := { program := "ytocgnbbnaamjjaadoor", sum := "119ad202808f04196eaf542f1b70f51824444814ab16c25860f0da5086381541", func := "switchyard/switchyardkeep.LacpFree", spec := "lacpFree", inPlace := ["internal/abi.NoEscape", "internal/bytealg.MakeNoZero", "internal/bytealg.IndexByteString", "internal/bytealg.IndexString"], named := ["unicode/utf8.first", "unicode/utf8.acceptRanges", "internal/bytealg.MaxLen"], apart := false, laid := [("unicode/utf8.acceptRanges", laid_unicode_utf8_acceptRanges), ("unicode/utf8.first", laid_unicode_utf8_first)] }
def LacpFreeSaid : Prop := lacpFreeRow.holds Tryd.pinned (OpenSpec.ofChange lacpFreeSpec)

/-- ITS FALSE NEIGHBOUR: 'it returns false'. Refute it at one input. -/
def lacpFreeWrong : ChangeSpec := { name := "lacpFree", fn := fun _ => fun
  | [d1, d2, d3] => { results := [.lit (.bool false)], args := [d1, d2, d3] }
  | _ => none }
def LacpFreeWrongFalsely : Prop := lacpFreeRow.holds Tryd.pinned (OpenSpec.ofChange lacpFreeWrong)

/-- 'switchyardkeep.MarkerBack': WHATEVER THE INPUT: true; the input reads as it did. -/
def markerBackSpec : ChangeSpec := { name := "markerBack", fn := fun _ => fun
  | [d] => { results := [.lit (.bool true)], args := [d] }
  | _ => none }
def markerBackRow : OpenClaim := { program := "ytocgnbbnaamjjaadoor", sum := "119ad202808f04196eaf542f1b70f51824444814ab16c25860f0da5086381541", func := "switchyard/switchyardkeep.MarkerBack", spec := "markerBack", inPlace := ["internal/abi.NoEscape", "internal/bytealg.MakeNoZero", "internal/bytealg.IndexByteString", "internal/bytealg.IndexString", "internal/reflectlite.ValueOf", "(internal/reflectlite.Value).Type", "(internal/reflectlite.Value).IsNil", "internal/reflectlite.TypeOf", "(internal/reflectlite.Value).Elem", "(internal/reflectlite.Value).Set"], unfollowed := true, recurses := true, named := ["unicode/utf8.first", "unicode/utf8.acceptRanges", "errors.errorType", "internal/bytealg.MaxLen"], apart := false, laid := [("unicode/utf8.acceptRanges", laid_unicode_utf8_acceptRanges), ("errors.errorType", laid_errors_errorType), ("unicode/utf8.first", laid_unicode_utf8_first)] }
def MarkerBackSaid : Prop := markerBackRow.holds Tryd.pinned (OpenSpec.ofChange markerBackSpec)

/-- ITS FALSE NEIGHBOUR: 'it returns false'. Refute it at one input. -/
def markerBackWrong : ChangeSpec := { name := "markerBack", fn := fun _ => fun
  | [d] => { results := [.lit (.bool false)], args := [d] }
  | _ => none }
def MarkerBackWrongFalsely : Prop := markerBackRow.holds Tryd.pinned (OpenSpec.ofChange markerBackWrong)

/- THE SECOND FORM. 'bulk': how many values and letters a reading holds, each counted each time it is reached (what is shared counts as often as it is met; a slice's spare places count too). A statement '..UptoSaid' is the law's where the arguments, and the package variables that the reading takes, are together of bulk at most 1048576: NARROWER than '..Said'. Prove '..Said' where nothing that the law and all that it calls make is longer than what came in: it says more and counts as full. Else prove '..UptoSaid'. A law counts once. -/
mutual
def uptoBulk {H : Type} : DataW H → Nat
  | .lit (.string bytes) => bytes.length + 1
  | .lit _ => 1
  | .nil => 1
  | .ptr d => uptoBulk d + 1
  | .slice elems spare => uptoBulkAll elems + uptoBulkAll spare + 1
  | .agg parts => uptoBulkAll parts + 1
  | .iface _ d => uptoBulk d + 1
  | .map entries => uptoBulkEntries entries + 1
  | .held _ => 1
def uptoBulkAll {H : Type} : List (DataW H) → Nat
  | [] => 0
  | d :: r => uptoBulk d + uptoBulkAll r
def uptoBulkEntries {H : Type} : List (Lit × DataW H) → Nat
  | [] => 0
  | x :: r => uptoBulkEntry x + uptoBulkEntries r
def uptoBulkEntry {H : Type} : Lit × DataW H → Nat
  | (.string bytes, d) => bytes.length + uptoBulk d + 1
  | (_, d) => uptoBulk d + 1
 end
def uptoSmall : (H : Type) → List (DataW H) → Bool := fun _ ds => decide (uptoBulkAll ds ≤ 1048576)
def OpenSpec.upto (s : _root_.Go.ChangeSpec) : _root_.Go.OpenSpec := { _root_.Go.OpenSpec.ofChange s with cond := some uptoSmall }

/-- 'switchyardlaw.LacpWrites', WHERE WHAT IT READS IS OF BULK AT MOST 1048576: true; the input reads as it did. -/
def lacpWritesUptoRow : OpenClaim := { program := "ytocgnbbnaamjjaadoor", sum := "119ad202808f04196eaf542f1b70f51824444814ab16c25860f0da5086381541", func := "switchyard/switchyardlaw.LacpWrites", spec := "lacpWrites", inPlace := ["internal/abi.NoEscape", "internal/bytealg.MakeNoZero", "internal/reflectlite.ValueOf", "(internal/reflectlite.Value).Type", "(internal/reflectlite.Value).IsNil", "internal/reflectlite.TypeOf", "(internal/reflectlite.Value).Elem", "(internal/reflectlite.Value).Set"], unfollowed := true, recurses := true, named := ["errors.errorType"], apart := false, laid := [("errors.errorType", laid_errors_errorType)], narrowed := true }
def LacpWritesUptoSaid : Prop := lacpWritesUptoRow.holds Tryd.pinned (OpenSpec.upto lacpWritesSpec)

/-- 'switchyardlaw.MarkerWrites', WHERE WHAT IT READS IS OF BULK AT MOST 1048576: true; the input reads as it did. -/
def markerWritesUptoRow : OpenClaim := { program := "ytocgnbbnaamjjaadoor", sum := "119ad202808f04196eaf542f1b70f51824444814ab16c25860f0da5086381541", func := "switchyard/switchyardlaw.MarkerWrites", spec := "markerWrites", inPlace := ["internal/abi.NoEscape", "internal/bytealg.MakeNoZero", "internal/reflectlite.ValueOf", "(internal/reflectlite.Value).Type", "(internal/reflectlite.Value).IsNil", "internal/reflectlite.TypeOf", "(internal/reflectlite.Value).Elem", "(internal/reflectlite.Value).Set"], unfollowed := true, recurses := true, named := ["errors.errorType"], apart := false, laid := [("errors.errorType", laid_errors_errorType)], narrowed := true }
def MarkerWritesUptoSaid : Prop := markerWritesUptoRow.holds Tryd.pinned (OpenSpec.upto markerWritesSpec)

/-- 'switchyardkeep.LacpSides', WHERE WHAT IT READS IS OF BULK AT MOST 1048576: true; the input reads as it did. -/
def lacpSidesUptoRow : OpenClaim := { program := "ytocgnbbnaamjjaadoor", sum := "119ad202808f04196eaf542f1b70f51824444814ab16c25860f0da5086381541", func := "switchyard/switchyardkeep.LacpSides", spec := "lacpSides", inPlace := ["internal/abi.NoEscape", "internal/bytealg.MakeNoZero", "internal/bytealg.IndexByteString", "internal/bytealg.IndexString"], named := ["unicode/utf8.first", "unicode/utf8.acceptRanges", "internal/bytealg.MaxLen"], apart := false, laid := [("unicode/utf8.acceptRanges", laid_unicode_utf8_acceptRanges), ("unicode/utf8.first", laid_unicode_utf8_first)], narrowed := true }
def LacpSidesUptoSaid : Prop := lacpSidesUptoRow.holds Tryd.pinned (OpenSpec.upto lacpSidesSpec)

/-- 'switchyardkeep.LacpBack', WHERE WHAT IT READS IS OF BULK AT MOST 1048576: true; the input reads as it did. -/
def lacpBackUptoRow : OpenClaim := { program := "ytocgnbbnaamjjaadoor", sum := "119ad202808f04196eaf542f1b70f51824444814ab16c25860f0da5086381541", func := "switchyard/switchyardkeep.LacpBack", spec := "lacpBack", inPlace := ["internal/abi.NoEscape", "internal/bytealg.MakeNoZero", "internal/bytealg.IndexByteString", "internal/bytealg.IndexString", "internal/reflectlite.ValueOf", "(internal/reflectlite.Value).Type", "(internal/reflectlite.Value).IsNil", "internal/reflectlite.TypeOf", "(internal/reflectlite.Value).Elem", "(internal/reflectlite.Value).Set"], unfollowed := true, recurses := true, named := ["unicode/utf8.first", "unicode/utf8.acceptRanges", "errors.errorType", "internal/bytealg.MaxLen"], apart := false, laid := [("unicode/utf8.acceptRanges", laid_unicode_utf8_acceptRanges), ("errors.errorType", laid_errors_errorType), ("unicode/utf8.first", laid_unicode_utf8_first)], narrowed := true }
def LacpBackUptoSaid : Prop := lacpBackUptoRow.holds Tryd.pinned (OpenSpec.upto lacpBackSpec)

/-- 'switchyardkeep.LacpFree', WHERE WHAT IT READS IS OF BULK AT MOST 1048576: true; the input reads as it did. -/
def lacpFreeUptoRow : OpenClaim := { program := "ytocgnbbnaamjjaadoor", sum := "119ad202808f04196eaf542f1b70f51824444814ab16c25860f0da5086381541", func := "switchyard/switchyardkeep.LacpFree", spec := "lacpFree", inPlace := ["internal/abi.NoEscape", "internal/bytealg.MakeNoZero", "internal/bytealg.IndexByteString", "internal/bytealg.IndexString"], named := ["unicode/utf8.first", "unicode/utf8.acceptRanges", "internal/bytealg.MaxLen"], apart := false, laid := [("unicode/utf8.acceptRanges", laid_unicode_utf8_acceptRanges), ("unicode/utf8.first", laid_unicode_utf8_first)], narrowed := true }
def LacpFreeUptoSaid : Prop := lacpFreeUptoRow.holds Tryd.pinned (OpenSpec.upto lacpFreeSpec)

/-- 'switchyardkeep.MarkerBack', WHERE WHAT IT READS IS OF BULK AT MOST 1048576: true; the input reads as it did. -/
def markerBackUptoRow : OpenClaim := { program := "ytocgnbbnaamjjaadoor", sum := "119ad202808f04196eaf542f1b70f51824444814ab16c25860f0da5086381541", func := "switchyard/switchyardkeep.MarkerBack", spec := "markerBack", inPlace := ["internal/abi.NoEscape", "internal/bytealg.MakeNoZero", "internal/bytealg.IndexByteString", "internal/bytealg.IndexString", "internal/reflectlite.ValueOf", "(internal/reflectlite.Value).Type", "(internal/reflectlite.Value).IsNil", "internal/reflectlite.TypeOf", "(internal/reflectlite.Value).Elem", "(internal/reflectlite.Value).Set"], unfollowed := true, recurses := true, named := ["unicode/utf8.first", "unicode/utf8.acceptRanges", "errors.errorType", "internal/bytealg.MaxLen"], apart := false, laid := [("unicode/utf8.acceptRanges", laid_unicode_utf8_acceptRanges), ("errors.errorType", laid_errors_errorType), ("unicode/utf8.first", laid_unicode_utf8_first)], narrowed := true }
def MarkerBackUptoSaid : Prop := markerBackUptoRow.holds Tryd.pinned (OpenSpec.upto markerBackSpec)

end Rows
end Go.Proofs.YtocgnbbnaamjjaaDoor
