/- arp.Reply at every message. -/
import Derived.Test.YtjoepmfineinfaaDoorBlk
import Derived.Test.YtjoepmfineinfaaDoorAr
namespace Go.Proofs.YtjoepmfineinfaaDoor
open Go.RowKit
attribute [local go_sem ↓] Go.wp_at_zero Go.wp_at_succ
set_option linter.unusedSimpArgs false
set_option linter.unusedVariables false
set_option maxRecDepth 100000

def arReply (a : Ar) (m : Nat → Nat) : Ar := ⟨2, m, a.sha, a.tpa, a.spa⟩





end Go.Proofs.YtjoepmfineinfaaDoor
