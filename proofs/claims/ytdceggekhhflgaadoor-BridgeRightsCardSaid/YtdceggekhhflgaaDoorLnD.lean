/- package learn: Learn at every argument. -/
import Derived.Test.YtdceggekhhflgaaDoorLnC
namespace Go.Proofs.YtdceggekhhflgaaDoor
open Go.RowKit
open Go.Shelf
attribute [local go_sem ↓] Go.wp_at_zero Go.wp_at_succ
set_option linter.unusedSimpArgs false
set_option linter.unusedVariables false
set_option maxRecDepth 100000



end Go.Proofs.YtdceggekhhflgaaDoor
