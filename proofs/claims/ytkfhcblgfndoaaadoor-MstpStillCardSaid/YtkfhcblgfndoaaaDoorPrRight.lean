/- prio.isPrio, Right, Port; the reference's within, BridgeRight, PortRight. -/
import Derived.Test.YtkfhcblgfndoaaaDoorBrS
import Derived.Test.YtkfhcblgfndoaaaDoorVecs
namespace Go.Proofs.YtkfhcblgfndoaaaDoor
open Go.RowKit
attribute [local go_sem ↓] Go.wp_at_zero Go.wp_at_succ
set_option linter.unusedSimpArgs false
set_option linter.unusedVariables false
set_option maxRecDepth 100000

set_option maxHeartbeats 1600000 in
theorem isPrio_any (x top step : Int) (hs : (step = 4096 ∧ top = 61440) ∨ (step = 16 ∧ top = 240)) (w : World) :
    Calls Tryd.prog 89 #[.int .i64 x, .int .i64 step] w fun e w' => e = .returned (.bool (prB x top step)) ∧ w = w' := by
  have HW : IntKind.i64.wrap (15 * step) = top := by rcases hs with ⟨rfl, rfl⟩ | ⟨rfl, rfl⟩ <;> decide
  have h0 : ¬ step = 0 := by rcases hs with ⟨rfl, rfl⟩ | ⟨rfl, rfl⟩ <;> decide
  have hp : 0 < step := by rcases hs with ⟨rfl, rfl⟩ | ⟨rfl, rfl⟩ <;> decide
  unfold prB
  by_cases c1 : 0 ≤ x
  · have d1 : decide (0 ≤ x) = true := decide_eq_true c1
    by_cases c2 : x ≤ top
    · have d2 : decide (x ≤ top) = true := decide_eq_true c2
      rw [d1, d2, Bool.true_and, Bool.true_and]
      go_enter Tryd.func89, Tryd.ntmps89
      go_wp2
      go_ret
      exact ⟨rfl, rfl⟩
    · have d2 : decide (x ≤ top) = false := decide_eq_false c2
      rw [d1, d2, Bool.true_and, Bool.false_and]
      go_enter Tryd.func89, Tryd.ntmps89
      go_wp2
      go_ret
      exact ⟨rfl, rfl⟩
  · have d1 : decide (0 ≤ x) = false := decide_eq_false c1
    rw [d1, Bool.false_and]
    go_enter Tryd.func89, Tryd.ntmps89
    go_wp2
    go_ret
    exact ⟨rfl, rfl⟩

theorem within_any (a b c : Int) (w : World) :
    Calls Tryd.prog 20 #[.int .i64 a, .int .i64 b, .int .i64 c] w fun e w' => e = .returned (.bool (decide (b ≤ a) && decide (a ≤ c))) ∧ w = w' := by
  by_cases c1 : b ≤ a
  · have d1 : decide (b ≤ a) = true := decide_eq_true c1
    rw [d1, Bool.true_and]
    go_enter Tryd.func20, Tryd.ntmps20
    go_wp2
    go_ret
    exact ⟨rfl, rfl⟩
  · have d1 : decide (b ≤ a) = false := decide_eq_false c1
    rw [d1, Bool.false_and]
    go_enter Tryd.func20, Tryd.ntmps20
    go_wp2
    go_ret
    exact ⟨rfl, rfl⟩

set_option maxHeartbeats 1600000 in
theorem right_any (b : Br) (w : World) :
    Calls Tryd.prog 55 #[.agg (brC b)] w fun e w' => e = .returned (.bool (okB b)) ∧ Below w.heap.size w w' := by
  have HA := Blk.new w 27 (brC b)
  have B0 : Below w.heap.size w (w.alloc (.cells (brC b) 27)) := (Below.refl _ _).alloc (Nat.le_refl _) _
  have c0 := HA.cv 0 (.int .i64 b.p) rfl
  have c1 := HA.cv 1 (.int .i64 b.e) rfl
  have HI := Lib.hid (fun W => isPrio_any b.p 61440 4096 (by decide) W)
  have HR : okB b = (prB b.p 61440 4096 && (decide (0 ≤ b.e) && decide (b.e ≤ 4095))) := rfl
  rw [HR]
  generalize prB b.p 61440 4096 = z at *
  clear HR
  cases z with
  | false =>
    rw [Bool.false_and]
    go_enter Tryd.func55, Tryd.ntmps55
    go_upto_region 1 with (fail)
    generalize (w.alloc (.cells (brC b) 27)) = w1 at *
    go_wp2_with fail
    refine (HI.out _).mono ?_
    rintro e w2 ⟨rfl, rfl⟩
    go_wp2
    go_ret
    exact ⟨rfl, B0⟩
  | true =>
    rw [Bool.true_and]
    by_cases q1 : (0 : Int) ≤ b.e
    · have d1 : decide ((0 : Int) ≤ b.e) = true := decide_eq_true q1
      rw [d1, Bool.true_and]
      go_enter Tryd.func55, Tryd.ntmps55
      go_upto_region 1 with (fail)
      generalize (w.alloc (.cells (brC b) 27)) = w1 at *
      go_wp2_with fail
      refine (HI.out _).mono ?_
      rintro e w2 ⟨rfl, rfl⟩
      go_wp2
      go_ret
      exact ⟨rfl, B0⟩
    · have d1 : decide ((0 : Int) ≤ b.e) = false := decide_eq_false q1
      rw [d1, Bool.false_and]
      go_enter Tryd.func55, Tryd.ntmps55
      go_upto_region 1 with (fail)
      generalize (w.alloc (.cells (brC b) 27)) = w1 at *
      go_wp2_with fail
      refine (HI.out _).mono ?_
      rintro e w2 ⟨rfl, rfl⟩
      go_wp2
      go_ret
      exact ⟨rfl, B0⟩

set_option maxHeartbeats 1600000 in
theorem port_any (p n : Int) (w : World) :
    Calls Tryd.prog 103 #[.agg (ptC p n)] w fun e w' => e = .returned (.bool (okPt p n)) ∧ Below w.heap.size w w' := by
  have HA := Blk.new w 29 (ptC p n)
  have B0 : Below w.heap.size w (w.alloc (.cells (ptC p n) 29)) := (Below.refl _ _).alloc (Nat.le_refl _) _
  have c0 := HA.cv 0 (.int .i64 p) rfl
  have c1 := HA.cv 1 (.int .i64 n) rfl
  have HI := Lib.hid (fun W => isPrio_any p 240 16 (by decide) W)
  have HR : okPt p n = (prB p 240 16 && (decide (1 ≤ n) && decide (n ≤ 4095))) := rfl
  rw [HR]
  generalize prB p 240 16 = z at *
  clear HR
  cases z with
  | false =>
    rw [Bool.false_and]
    go_enter Tryd.func103, Tryd.ntmps103
    go_upto_region 1 with (fail)
    generalize (w.alloc (.cells (ptC p n) 29)) = w1 at *
    go_wp2_with fail
    refine (HI.out _).mono ?_
    rintro e w2 ⟨rfl, rfl⟩
    go_wp2
    go_ret
    exact ⟨rfl, B0⟩
  | true =>
    rw [Bool.true_and]
    by_cases q1 : (1 : Int) ≤ n
    · have d1 : decide ((1 : Int) ≤ n) = true := decide_eq_true q1
      rw [d1, Bool.true_and]
      go_enter Tryd.func103, Tryd.ntmps103
      go_upto_region 1 with (fail)
      generalize (w.alloc (.cells (ptC p n) 29)) = w1 at *
      go_wp2_with fail
      refine (HI.out _).mono ?_
      rintro e w2 ⟨rfl, rfl⟩
      go_wp2
      go_ret
      exact ⟨rfl, B0⟩
    · have d1 : decide ((1 : Int) ≤ n) = false := decide_eq_false q1
      rw [d1, Bool.false_and]
      go_enter Tryd.func103, Tryd.ntmps103
      go_upto_region 1 with (fail)
      generalize (w.alloc (.cells (ptC p n) 29)) = w1 at *
      go_wp2_with fail
      refine (HI.out _).mono ?_
      rintro e w2 ⟨rfl, rfl⟩
      go_wp2
      go_ret
      exact ⟨rfl, B0⟩





end Go.Proofs.YtkfhcblgfndoaaaDoor
