/- The text of a bridge's name, and what is guessed from a text: plain lists, nothing of the program. (apart: prB, prB_all, okB) -/
import Derived.Test.YtnlphldkdglofaaVecMath
import Derived.Test.YtnlphldkdglofaaHexT
namespace Go.Proofs.Ytnlphldkdglofaa
set_option linter.unusedVariables false

/-- One of the steps from 0 on. -/
def prB (x top step : Int) : Bool := decide (0 ≤ x) && (decide (x ≤ top) && decide (x % step = 0))

theorem prB_all {x top step : Int} (h : prB x top step = true) : 0 ≤ x ∧ x ≤ top ∧ x % step = 0 := by
  simpa only [prB, Bool.and_eq_true, decide_eq_true_eq] using h

/-- A name that may be. -/
def okB (b : Br) : Bool := prB b.p 61440 4096 && (decide (0 ≤ b.e) && decide (b.e ≤ 4095))

theorem okB_all {b : Br} (h : okB b = true) : 0 ≤ b.p ∧ b.p ≤ 61440 ∧ b.p % 4096 = 0 ∧ 0 ≤ b.e ∧ b.e ≤ 4095 := by
  simp only [okB, prB, Bool.and_eq_true, decide_eq_true_eq] at h
  obtain ⟨⟨h0, h1, h2⟩, h3, h4⟩ := h
  exact ⟨h0, h1, h2, h3, h4⟩

/-- A port's name that may be. -/
def okPt (p n : Int) : Bool := prB p 240 16 && (decide (1 ≤ n) && decide (n ≤ 4095))

theorem okPt_all {p n : Int} (h : okPt p n = true) : 0 ≤ p ∧ p ≤ 240 ∧ p % 16 = 0 ∧ 1 ≤ n ∧ n ≤ 4095 := by
  simp only [okPt, prB, Bool.and_eq_true, decide_eq_true_eq] at h
  obtain ⟨⟨h0, h1, h2⟩, h3, h4⟩ := h
  exact ⟨h0, h1, h2, h3, h4⟩

/-- Its bytes are bytes. -/
def byB (b : Br) : Prop := ∀ i, b.a i < 256


end Go.Proofs.Ytnlphldkdglofaa
