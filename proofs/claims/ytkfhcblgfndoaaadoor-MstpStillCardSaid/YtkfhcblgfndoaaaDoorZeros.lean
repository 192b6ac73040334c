/- (*wire.Reader).Zeros at every argument. -/
import Derived.Test.YtkfhcblgfndoaaaDoorLow
import Derived.Test.YtkfhcblgfndoaaaDoorShelf
import Derived.Lib.TrimByte
namespace Go.Proofs.YtkfhcblgfndoaaaDoor
open Go.RowKit

/-- How many noughts stand ahead. -/
def lead (l : List UInt8) : Nat := l.length - (Lib.trimLeftB l 0).length

theorem trim_le (l : List UInt8) : (Lib.trimLeftB l 0).length ≤ l.length := by
  induction l with
  | nil => exact Nat.le_refl _
  | cons b l ih =>
    show ((b :: l).dropWhile (· == 0)).length ≤ _
    have ih' : (l.dropWhile (· == 0)).length ≤ l.length := ih
    cases hb : (b == 0) with
    | true => simp only [List.dropWhile, hb, List.length_cons]; omega
    | false => simp only [List.dropWhile, hb, List.length_cons]; omega

theorem trim_drop (l : List UInt8) : Lib.trimLeftB l 0 = l.drop (lead l) := by
  induction l with
  | nil => rfl
  | cons b l ih =>
    have hl := trim_le l
    cases hb : (b == 0) with
    | true =>
      have e : Lib.trimLeftB (b :: l) 0 = Lib.trimLeftB l 0 := by
        show (b :: l).dropWhile (· == 0) = l.dropWhile (· == 0)
        simp only [List.dropWhile, hb]
      have e2 : lead (b :: l) = lead l + 1 := by unfold lead; rw [e, List.length_cons]; omega
      rw [e, e2, List.drop_succ_cons]
      exact ih
    | false =>
      have e : Lib.trimLeftB (b :: l) 0 = b :: l := by
        show (b :: l).dropWhile (· == 0) = b :: l
        simp only [List.dropWhile, hb]
      have e2 : lead (b :: l) = 0 := by unfold lead; rw [e]; omega
      rw [e, e2, List.drop_zero]







end Go.Proofs.YtkfhcblgfndoaaaDoor
