/-
  No cell of these rows narrows 'for every input' (looked for: loops, veiled, ifaces, maps, wideKeys, modest, calm, conditions, laid).
  DERIVED. THE GIVEN ROWS OF THIS SEAT. 4 by the template 'for every input the law returns true; each argument reads behind the call as it read before'; 0 by the template 'total and deterministic' (their statements: YtafmkgdpfjimkaaTotals.lean).
  GIVEN WITH THE SEED: the statements are not yours to turn. If you find one false, say at which input.
  Laid BY PROGRAM, IN A SANDBOX (cutbox-rows.mjs): the forced cells as the released guide's own fill.sh prints them over the translation 27fbc669a44a58cd… (all of the seat's roots in one cut). By AI agents, Wed Nov 11 2026. No macro, syntax, notation, axiom, sorry.
-/
import Derived.Test.YtafmkgdpfjimkaaChecked
import GoSem.Claim
import GoSem.ClaimJoined
import GoSem.ClaimMapViews
import Derived.JoinedTies
import Derived.KernelRfl
namespace Go.Proofs.Ytafmkgdpfjimkaa
/- THE CELL 'sum', in the pinned program and in every row, IS THE sha256 OF THE DUMP (.gsa) THAT YtafmkgdpfjimkaaProg.lean LOADS. Nothing in Lean hashes anything: it is a label: what it is worth is what the hold of that sum in a sandbox is worth. -/
noncomputable def Try.pinned : Pinned := { name := "ytafmkgdpfjimkaa", sum := "27fbc669a44a58cd1996f9bd458ced241d2400f947c030177820615c13ba4b53", checked := Try.checked }
namespace Rows
def none {H : Type} : Left H := { results := [], args := [] }

/-- 'switchyardkeep.MacBack': WHATEVER THE INPUT: true; the input reads as it did. -/
def macBackSpec : ChangeSpec := { name := "macBack", fn := fun _ => fun
  | [d1, d2] => { results := [.lit (.bool true)], args := [d1, d2] }
  | _ => none }
def macBackRow : OpenClaim := { program := "ytafmkgdpfjimkaa", sum := "27fbc669a44a58cd1996f9bd458ced241d2400f947c030177820615c13ba4b53", func := "switchyard/switchyardkeep.MacBack", spec := "macBack", inPlace := ["internal/bytealg.IndexByteString"], apart := false }
def MacBackSaid : Prop := macBackRow.holds Try.pinned (OpenSpec.ofChange macBackSpec)

/-- ITS FALSE NEIGHBOUR: 'it returns false'. Refute it at one input. -/
def macBackWrong : ChangeSpec := { name := "macBack", fn := fun _ => fun
  | [d1, d2] => { results := [.lit (.bool false)], args := [d1, d2] }
  | _ => none }
def MacBackWrongFalsely : Prop := macBackRow.holds Try.pinned (OpenSpec.ofChange macBackWrong)

/-- 'switchyardkeep.MacReserved': WHATEVER THE INPUT: true; the input reads as it did. -/
def macReservedSpec : ChangeSpec := { name := "macReserved", fn := fun _ => fun
  | [d1, d2] => { results := [.lit (.bool true)], args := [d1, d2] }
  | _ => none }
def macReservedRow : OpenClaim := { program := "ytafmkgdpfjimkaa", sum := "27fbc669a44a58cd1996f9bd458ced241d2400f947c030177820615c13ba4b53", func := "switchyard/switchyardkeep.MacReserved", spec := "macReserved", inPlace := ["internal/bytealg.IndexByteString"], apart := false }
def MacReservedSaid : Prop := macReservedRow.holds Try.pinned (OpenSpec.ofChange macReservedSpec)

/-- ITS FALSE NEIGHBOUR: 'it returns false'. Refute it at one input. -/
def macReservedWrong : ChangeSpec := { name := "macReserved", fn := fun _ => fun
  | [d1, d2] => { results := [.lit (.bool false)], args := [d1, d2] }
  | _ => none }
def MacReservedWrongFalsely : Prop := macReservedRow.holds Try.pinned (OpenSpec.ofChange macReservedWrong)

/-- 'switchyardkeep.MacOrder': WHATEVER THE INPUT: true; the input reads as it did. -/
def macOrderSpec : ChangeSpec := { name := "macOrder", fn := fun _ => fun
  | [d1, d2, d3] => { results := [.lit (.bool true)], args := [d1, d2, d3] }
  | _ => none }
def macOrderRow : OpenClaim := { program := "ytafmkgdpfjimkaa", sum := "27fbc669a44a58cd1996f9bd458ced241d2400f947c030177820615c13ba4b53", func := "switchyard/switchyardkeep.MacOrder", spec := "macOrder", inPlace := ["internal/bytealg.IndexByteString", "internal/bytealg.Compare"], apart := false }
def MacOrderSaid : Prop := macOrderRow.holds Try.pinned (OpenSpec.ofChange macOrderSpec)

/-- ITS FALSE NEIGHBOUR: 'it returns false'. Refute it at one input. -/
def macOrderWrong : ChangeSpec := { name := "macOrder", fn := fun _ => fun
  | [d1, d2, d3] => { results := [.lit (.bool false)], args := [d1, d2, d3] }
  | _ => none }
def MacOrderWrongFalsely : Prop := macOrderRow.holds Try.pinned (OpenSpec.ofChange macOrderWrong)

/-- 'switchyardlaw.TagStacks': WHATEVER THE INPUT: true; the input reads as it did. -/
def tagStacksSpec : ChangeSpec := { name := "tagStacks", fn := fun _ => fun
  | [d] => { results := [.lit (.bool true)], args := [d] }
  | _ => none }
def tagStacksRow : OpenClaim := { program := "ytafmkgdpfjimkaa", sum := "27fbc669a44a58cd1996f9bd458ced241d2400f947c030177820615c13ba4b53", func := "switchyard/switchyardlaw.TagStacks", spec := "tagStacks", apart := false }
def TagStacksSaid : Prop := tagStacksRow.holds Try.pinned (OpenSpec.ofChange tagStacksSpec)

/-- ITS FALSE NEIGHBOUR: 'it returns false'. Refute it at one input. -/
def tagStacksWrong : ChangeSpec := { name := "tagStacks", fn := fun _ => fun
  | [d] => { results := [.lit (.bool false)], args := [d] }
  | _ => none }
def TagStacksWrongFalsely : Prop := tagStacksRow.holds Try.pinned (OpenSpec.ofChange tagStacksWrong)

/- THE SECOND FORM. 'bulk': how many values and letters a reading holds, each counted each time it is reached (what is shared counts as often as it is met; a slice's spare places count too). A statement '..UptoSaid' is the law's where the arguments, and the package variables that the reading takes, are together of bulk at most 1048576: NARROWER than '..Said'. Prove '..Said' where nothing that the law and all that it calls make is longer than what came in: it says more and counts as full. Else prove '..UptoSaid'. A law counts once. -/
mutual
def uptoBulk {H : Type} : DataW H → Nat
  | .lit (.string bytes) => bytes.length + 1
  | .lit _ => 1
  | .nil => 1
  | .ptr d => uptoBulk d + 1
  | .slice elems spare => uptoBulkAll elems + uptoBulkAll spare + 1
  | .agg parts => uptoBulkAll parts + 1
  | .iface _ d => uptoBulk d + 1
  | .map entries => uptoBulkEntries entries + 1
  | .held _ => 1
def uptoBulkAll {H : Type} : List (DataW H) → Nat
  | [] => 0
  | d :: r => uptoBulk d + uptoBulkAll r
def uptoBulkEntries {H : Type} : List (Lit × DataW H) → Nat
  | [] => 0
  | x :: r => uptoBulkEntry x + uptoBulkEntries r
def uptoBulkEntry {H : Type} : Lit × DataW H → Nat
  | (.string bytes, d) => bytes.length + uptoBulk d + 1
  | (_, d) => uptoBulk d + 1
 end
def uptoSmall : (H : Type) → List (DataW H) → Bool := fun _ ds => decide (uptoBulkAll ds ≤ 1048576)
def OpenSpec.upto (s : _root_.Go.ChangeSpec) : _root_.Go.OpenSpec := { _root_.Go.OpenSpec.ofChange s with cond := some uptoSmall }

/-- 'switchyardkeep.MacBack', WHERE WHAT IT READS IS OF BULK AT MOST 1048576: true; the input reads as it did. -/
def macBackUptoRow : OpenClaim := { program := "ytafmkgdpfjimkaa", sum := "27fbc669a44a58cd1996f9bd458ced241d2400f947c030177820615c13ba4b53", func := "switchyard/switchyardkeep.MacBack", spec := "macBack", inPlace := ["internal/bytealg.IndexByteString"], apart := false, narrowed := true }
def MacBackUptoSaid : Prop := macBackUptoRow.holds Try.pinned (OpenSpec.upto macBackSpec)

/-- 'switchyardkeep.MacReserved', WHERE WHAT IT READS IS OF BULK AT MOST 1048576: true; the input reads as it did. -/
def macReservedUptoRow : OpenClaim := { program := "ytafmkgdpfjimkaa", sum := "27fbc669a44a58cd1996f9bd458ced241d2400f947c030177820615c13ba4b53", func := "switchyard/switchyardkeep.MacReserved", spec := "macReserved", inPlace := ["internal/bytealg.IndexByteString"], apart := false, narrowed := true }
def MacReservedUptoSaid : Prop := macReservedUptoRow.holds Try.pinned (OpenSpec.upto macReservedSpec)

/-- 'switchyardkeep.MacOrder', WHERE WHAT IT READS IS OF BULK AT MOST 1048576: true; the input reads as it did. -/
def macOrderUptoRow : OpenClaim := { program := "ytafmkgdpfjimkaa", sum := "27fbc669a44a58cd1996f9bd458ced241d2400f947c030177820615c13ba4b53", func := "switchyard/switchyardkeep.MacOrder", spec := "macOrder", inPlace := ["internal/bytealg.IndexByteString", "internal/bytealg.Compare"], apart := false, narrowed := true }
def MacOrderUptoSaid : Prop := macOrderUptoRow.holds Try.pinned (OpenSpec.upto macOrderSpec)

/-- 'switchyardlaw.TagStacks', WHERE WHAT IT READS IS OF BULK AT MOST 1048576: true; the input reads as it did. -/
def tagStacksUptoRow : OpenClaim := { program := "ytafmkgdpfjimkaa", sum := "27fbc669a44a58cd1996f9bd458ced241d2400f947c030177820615c13ba4b53", func := "switchyard/switchyardlaw.TagStacks", spec := "tagStacks", apart := false, narrowed := true }
def TagStacksUptoSaid : Prop := tagStacksUptoRow.holds Try.pinned (OpenSpec.upto tagStacksSpec)

end Rows
end Go.Proofs.Ytafmkgdpfjimkaa
