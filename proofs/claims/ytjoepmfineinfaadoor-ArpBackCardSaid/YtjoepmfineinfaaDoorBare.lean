/- switchyardlaw.bare: an error that is this one, without a place. -/
import Derived.Test.YtjoepmfineinfaaDoorPlace
namespace Go.Proofs.YtjoepmfineinfaaDoor
open Go.RowKit
set_option linter.unusedVariables false











end Go.Proofs.YtjoepmfineinfaaDoor
