/- switchyardlaw.TagStacks returns true at every list, and changes nothing that was there. -/
import Derived.Test.YtafmkgdpfjimkaaRefStack
namespace Go.Proofs.Ytafmkgdpfjimkaa.tagStacks
open Go.RowKit

theorem walk (a : Option Addr) (c : Nat) (l : List Tg) (w : World) (h : TagsIn w a l) :
    Calls Try.prog 6 #[.slice a l.length c] w fun e w' => e = .returned (.bool true) ∧ Below w.heap.size w w' := by
  by_cases hs : l.length ≤ 20
  · have hgt : decide ((20 : Int) < (l.length : Int)) = false := decide_eq_false (by omega)
    go_enter Try.func6, Try.ntmps6
    go_wp2_with fail
    refine (stack_any a c l _ h (by omega)).mono ?_
    rintro e w1 ⟨rfl, k1⟩
    go_wp2_with fail
    refine (refStack_any a c l _ (h.below k1) (by omega)).mono ?_
    rintro e w2 ⟨rfl, k2⟩
    go_wp2
    go_ret
    exact ⟨by simp, below_next k1 k2⟩
  · have hgt : decide ((20 : Int) < (l.length : Int)) = true := decide_eq_true (by omega)
    go_enter Try.func6, Try.ntmps6
    go_wp2
    go_ret
    exact ⟨rfl, Below.refl _ _⟩
end Go.Proofs.Ytafmkgdpfjimkaa.tagStacks
