/- tlv.Right, and the reference's, at every record. -/
import Derived.Test.YticjmjoiggnblaaDoorTlS
namespace Go.Proofs.YticjmjoiggnblaaDoor
open Go.RowKit
attribute [local go_sem ↓] Go.wp_at_zero Go.wp_at_succ
set_option linter.unusedSimpArgs false
set_option linter.unusedVariables false
set_option maxRecDepth 100000

theorem tlRight_any (x : Tl) (w : World) : Calls Tryd.prog 40 #[.agg (tlC x)] w fun e w' => e = .returned (.bool (okTl x)) ∧ Below w.heap.size w w' := by
  have hb0 : Below w.heap.size w (w.alloc (.cells (tlC x) 24)) := (Below.refl _ _).alloc (Nat.le_refl _) _
  unfold okTl
  unfold tlC at *
  obtain ⟨k, t⟩ := x
  simp only at *
  by_cases h1 : 0 < k
  · have d1 : decide (0 < k) = true := decide_eq_true h1
    by_cases h2 : k ≤ 127
    · have d2 : decide (k ≤ 127) = true := decide_eq_true h2
      generalize hd : decide ((t.size : Int) ≤ 511) = d3
      rw [d1, d2, Bool.true_and, Bool.true_and]
      go_enter Tryd.func40, Tryd.ntmps40
      go_wp2
      go_ret
      exact ⟨rfl, hb0⟩
    · have d2 : decide (k ≤ 127) = false := decide_eq_false h2
      rw [d1, d2, Bool.true_and, Bool.false_and]
      go_enter Tryd.func40, Tryd.ntmps40
      go_wp2
      go_ret
      exact ⟨rfl, hb0⟩
  · have d1 : decide (0 < k) = false := decide_eq_false h1
    rw [d1, Bool.false_and]
    go_enter Tryd.func40, Tryd.ntmps40
    go_wp2
    go_ret
    exact ⟨rfl, hb0⟩

theorem withinR_any (x a b : Int) (w : World) : Calls Tryd.prog 77 #[.int .i64 x, .int .i64 a, .int .i64 b] w fun e w' => e = .returned (.bool (decide (a ≤ x) && decide (x ≤ b))) ∧ Below w.heap.size w w' := by
  by_cases h1 : a ≤ x
  · have d1 : decide (a ≤ x) = true := decide_eq_true h1
    generalize hd : decide (x ≤ b) = d2
    rw [d1, Bool.true_and]
    go_enter Tryd.func77, Tryd.ntmps77
    go_wp2
    go_ret
    exact ⟨rfl, Below.refl _ _⟩
  · have d1 : decide (a ≤ x) = false := decide_eq_false h1
    rw [d1, Bool.false_and]
    go_enter Tryd.func77, Tryd.ntmps77
    go_wp2
    go_ret
    exact ⟨rfl, Below.refl _ _⟩

theorem refTlRight_any (x : Tl) (w : World) : Calls Tryd.prog 34 #[.agg (tlC x)] w fun e w' => e = .returned (.bool (okTl x)) ∧ Below w.heap.size w w' := by
  have hb0 : Below w.heap.size w (w.alloc (.cells (tlC x) 24)) := (Below.refl _ _).alloc (Nat.le_refl _) _
  have HB := Blk.new w 24 (tlC x)
  have e0 : okTl x = ((decide (1 ≤ x.k) && decide (x.k ≤ 127)) && decide ((x.t.size : Int) < 512)) := by
    unfold okTl
    rw [show decide (1 ≤ x.k) = decide (0 < x.k) by congr 1, show decide ((x.t.size : Int) < 512) = decide ((x.t.size : Int) ≤ 511) by congr 1; exact propext ⟨fun h => by omega, fun h => by omega⟩, Bool.and_assoc]
  rw [e0]
  have HW := Lib.hid (fun W => withinR_any x.k 1 127 W)
  generalize (decide (1 ≤ x.k) && decide (x.k ≤ 127)) = d at *
  clear e0
  cases d with
  | true =>
    generalize hd : decide ((x.t.size : Int) < 512) = d3
    rw [Bool.true_and]
    go_enter Tryd.func34, Tryd.ntmps34
    go_upto_region 1 with (fail)
    generalize (w.alloc (.cells (tlC x) 24)) = w1 at *
    have c0 := HB.cv 0 (.int .i64 x.k) rfl
    go_wp2_with fail
    refine (HW.out _).mono ?_
    rintro e w2 ⟨rfl, k2⟩
    have HB2 := HB.kept k2
    have c1 := HB2.cv 1 (.string x.t) rfl
    go_wp2
    go_ret
    exact ⟨rfl, hb0.trans (k2.mono hb0.size)⟩
  | false =>
    rw [Bool.false_and]
    go_enter Tryd.func34, Tryd.ntmps34
    go_upto_region 1 with (fail)
    generalize (w.alloc (.cells (tlC x) 24)) = w1 at *
    have c0 := HB.cv 0 (.int .i64 x.k) rfl
    go_wp2_with fail
    refine (HW.out _).mono ?_
    rintro e w2 ⟨rfl, k2⟩
    go_wp2
    go_ret
    exact ⟨rfl, hb0.trans (k2.mono hb0.size)⟩

end Go.Proofs.YticjmjoiggnblaaDoor
