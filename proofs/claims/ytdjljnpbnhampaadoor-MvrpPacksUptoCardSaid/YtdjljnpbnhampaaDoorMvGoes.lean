/- mvrp.goesOn at every attribute that may be. -/
import Derived.Test.YtdjljnpbnhampaaDoorMvWrite
namespace Go.Proofs.YtdjljnpbnhampaaDoor
open Go.RowKit
attribute [local go_sem ↓] Go.wp_at_zero Go.wp_at_succ
set_option linter.unusedSimpArgs false
set_option linter.unusedVariables false
set_option maxRecDepth 100000

/-- Is there room behind an attribute for one more event, a VID's? -/
def goesM (x : Mv) (v : Int) : Bool := (x.first + (x.ev.length : Int) == v) && decide (x.ev.length < 400)

theorem goesOn_any (x : Mv) (a : Option Addr) (c : Nat) (v : Int) (w : World) (hf : -100000 ≤ x.first ∧ x.first ≤ 100000) (hl : x.ev.length ≤ 400) :
    Calls Tryd.prog 63 #[.agg (mvC ⟨x, a, c⟩), .int .i64 v] w fun e w' => e = .returned (.bool (goesM x v)) ∧ Below w.heap.size w w' := by
  obtain ⟨al, fi, ev⟩ := x
  simp only at hf hl
  have hb0 : Below w.heap.size w (w.alloc (.cells #[.bool al, .int .i64 fi, .slice a ev.length c] 92)) := (Below.refl _ _).alloc (Nat.le_refl _) _
  have q1 : IntKind.i64.wrap (fi + (ev.length : Int)) = fi + (ev.length : Int) := by rw [IntKind.wrap_i64] <;> omega
  unfold goesM mvC
  simp only
  obtain ⟨b1, h1⟩ : ∃ b1, (fi + (ev.length : Int) == v) = b1 := ⟨_, rfl⟩
  rw [h1]
  cases b1 with
  | false =>
    rw [Bool.false_and]
    go_enter Tryd.func63, Tryd.ntmps63
    go_wp2
    go_ret
    exact ⟨rfl, hb0⟩
  | true =>
    rw [Bool.true_and]
    have hd : Hid (decide ((ev.length : Int) < 400) = decide (ev.length < 400)) := by
      show _ = _
      by_cases hq : ev.length < 400
      · rw [decide_eq_true hq, decide_eq_true (by omega)]
      · rw [decide_eq_false hq, decide_eq_false (by omega)]
    go_enter Tryd.func63, Tryd.ntmps63
    go_wp2
    go_ret
    exact ⟨by rw [← hd.out]; rfl, hb0⟩

end Go.Proofs.YtdjljnpbnhampaaDoor
