/- switchyardlaw.bare: an error that is this one, without a place. -/
import Derived.Test.YtgeiiengieonfaaDoorPlace
namespace Go.Proofs.YtgeiiengieonfaaDoor
open Go.RowKit
set_option linter.unusedVariables false

theorem bare_nil (w : World) : Calls Tryd.prog 13 #[.nilIface, .int .i64 0] w fun e w' => e = .returned (.bool true) ∧ w = w' := by
  go_enter Tryd.func13, Tryd.ntmps13
  go_wp2_with fail
  refine (place_nil _).mono ?_
  rintro e w' ⟨rfl, rfl⟩
  go_wp2
  go_ret
  exact ⟨rfl, rfl⟩

theorem bare_errno (x : Int) (w : World) (hE : HasErr w) : Calls Tryd.prog 13 #[.iface 35 (.int .i64 x), .int .i64 x] w fun e w' => e = .returned (.bool true) ∧ Below w.heap.size w w' := by
  go_enter Tryd.func13, Tryd.ntmps13
  go_wp2_with fail
  refine (place_errno x _ hE).mono ?_
  rintro e w' ⟨rfl, hb⟩
  go_wp2
  go_ret
  exact ⟨rfl, hb⟩

/-- An error and its Errno. -/
def Bare (er : Value) (ea : Int) : Prop := ∀ w, HasErr w → Calls Tryd.prog 13 #[er, .int .i64 ea] w fun e w' => e = .returned (.bool true) ∧ Below w.heap.size w w'

theorem Bare.none : Bare .nilIface 0 := fun w _ => (bare_nil w).mono (by rintro e w' ⟨rfl, rfl⟩; exact ⟨rfl, Below.refl _ _⟩)

theorem Bare.errno (x : Int) : Bare (.iface 35 (.int .i64 x)) x := fun w hE => bare_errno x w hE

end Go.Proofs.YtgeiiengieonfaaDoor
