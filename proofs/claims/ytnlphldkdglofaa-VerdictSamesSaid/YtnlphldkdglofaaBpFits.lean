/- wire.Fits; bpdu.Flags, ofConfig. -/
import Derived.Test.YtnlphldkdglofaaBp
import Derived.Test.YtnlphldkdglofaaFits
namespace Go.Proofs.Ytnlphldkdglofaa
open Go.RowKit
attribute [local go_sem ↓] Go.wp_at_zero Go.wp_at_succ
set_option linter.unusedSimpArgs false
set_option linter.unusedVariables false
set_option maxRecDepth 100000

/-- The bytes of its addresses are bytes; its numbers have 64 bits. -/
def byBp (b : Bp) : Prop := byB b.root ∧ byB b.snd

def rgBp (b : Bp) : Prop := i64R b.cost ∧ i64R b.age ∧ i64R b.mx ∧ i64R b.hel ∧ i64R b.wai



end Go.Proofs.Ytnlphldkdglofaa
