/- Numbers that fit: plainly. -/
import Derived.Test.YtnlphldkdglofaaNum
namespace Go.Proofs.Ytnlphldkdglofaa
set_option linter.unusedVariables false

def fitI (n : Nat) (v : Int) : Bool := decide (0 ≤ v) && decide (v < 256 ^ n)

theorem fitI_all {n : Nat} {v : Int} (h : fitI n v = true) : 0 ≤ v ∧ v < 256 ^ n := by simpa [fitI] using h

/-- A number of 64 bits. -/
def i64R (v : Int) : Prop := -9223372036854775808 ≤ v ∧ v ≤ 9223372036854775807


end Go.Proofs.Ytnlphldkdglofaa
