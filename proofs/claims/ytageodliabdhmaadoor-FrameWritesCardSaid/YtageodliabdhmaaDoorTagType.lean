/- frame.tagType at both; be at every number of few bytes. -/
import Derived.Test.YtageodliabdhmaaDoorFr
namespace Go.Proofs.YtageodliabdhmaaDoor
open Go.RowKit
attribute [local go_sem ↓] Go.wp_at_zero Go.wp_at_succ

def typeN (s : Bool) : Int := if s then 34984 else 33024
theorem tagType_any (s : Bool) (w : World) :
    Calls Tryd.prog 18 #[.bool s] w fun e w' => e = .returned (.int .i64 (typeN s)) ∧ w = w' := by
  cases s <;>
  · go_enter Tryd.func18, Tryd.ntmps18
    go_wp2
    go_ret
    exact ⟨rfl, rfl⟩

end Go.Proofs.YtageodliabdhmaaDoor
