/- switchyardlaw.PrioBest returns true at every list, and changes nothing that was there. -/
import Derived.Test.YtceiiolpggolbaaRefBest
namespace Go.Proofs.Ytceiiolpggolbaa.prioBest
open Go.RowKit
attribute [local go_sem ↓] Go.wp_at_zero Go.wp_at_succ
set_option linter.unusedSimpArgs false
set_option linter.unusedVariables false
set_option maxRecDepth 100000

set_option maxHeartbeats 3200000 in
theorem walk (a : Option Addr) (c : Nat) (l : List Ve) (w : World) (h : VesIn w a l) (hl : ∀ v ∈ l, byV v) :
    Calls Try.prog 4 #[.slice a l.length c] w fun e w' => e = .returned (.bool true) ∧ Below w.heap.size w w' := by
  by_cases hs : l.length ≤ 30
  · have hgt : decide ((30 : Int) < (l.length : Int)) = false := decide_eq_false (by omega)
    have H1 := Lib.hid (fun W (hW : Below w.heap.size w W) => best_any a c l W (h.below hW) hl (by omega))
    have H2 := Lib.hid (fun W (hW : Below w.heap.size w W) => refBest_any a c l W (h.below hW) hl (by omega))
    go_enter Try.func4, Try.ntmps4
    go_wp2_with fail
    refine (H1.out _ (Below.refl _ _)).mono ?_
    rintro e w1 ⟨i, hi, rfl, k1⟩
    go_wp2_with fail
    refine (H2.out _ k1).mono ?_
    rintro e w2 ⟨j, hj, rfl, k2⟩
    obtain rfl := BestAt.one hi hj
    have he : (i == i) = true := by simp
    go_wp2
    go_ret
    exact ⟨by simp, k1.trans (k2.mono k1.size)⟩
  · have hgt : decide ((30 : Int) < (l.length : Int)) = true := decide_eq_true (by omega)
    go_enter Try.func4, Try.ntmps4
    go_wp2
    go_ret
    exact ⟨rfl, Below.refl _ _⟩

end Go.Proofs.Ytceiiolpggolbaa.prioBest
