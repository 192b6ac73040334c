/- prio.isPrio, Right, Port; the reference's within, BridgeRight, PortRight. -/
import Derived.Test.YtdjljnpbnhampaaDoorBrS
import Derived.Test.YtdjljnpbnhampaaDoorVecs
namespace Go.Proofs.YtdjljnpbnhampaaDoor
open Go.RowKit
attribute [local go_sem ↓] Go.wp_at_zero Go.wp_at_succ
set_option linter.unusedSimpArgs false
set_option linter.unusedVariables false
set_option maxRecDepth 100000



theorem within_any (a b c : Int) (w : World) :
    Calls Tryd.prog 33 #[.int .i64 a, .int .i64 b, .int .i64 c] w fun e w' => e = .returned (.bool (decide (b ≤ a) && decide (a ≤ c))) ∧ w = w' := by
  by_cases c1 : b ≤ a
  · have d1 : decide (b ≤ a) = true := decide_eq_true c1
    rw [d1, Bool.true_and]
    go_enter Tryd.func33, Tryd.ntmps33
    go_wp2
    go_ret
    exact ⟨rfl, rfl⟩
  · have d1 : decide (b ≤ a) = false := decide_eq_false c1
    rw [d1, Bool.false_and]
    go_enter Tryd.func33, Tryd.ntmps33
    go_wp2
    go_ret
    exact ⟨rfl, rfl⟩









end Go.Proofs.YtdjljnpbnhampaaDoor
