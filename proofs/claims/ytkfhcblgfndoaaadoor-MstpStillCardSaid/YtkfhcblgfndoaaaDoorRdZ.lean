/- A wire.Reader beside the plain answer: what Bytes, Num, Fail, Zeros and Err do in any state. (apart: zrR, leadT_le, zrR_le) -/
import Derived.Test.YtkfhcblgfndoaaaDoorRdT
import Derived.Test.YtkfhcblgfndoaaaDoorZeros
namespace Go.Proofs.YtkfhcblgfndoaaaDoor
open Go.RowKit
set_option linter.unusedVariables false

/-- Only noughts are left. -/
def zrR (s : List UInt8) (off : Nat) (st : RSt) : Bool × RSt :=
  if st.2.1 ≠ 0 then (false, st)
  else if st.1 + lead (s.drop st.1) = s.length then (true, s.length, st.2)
  else (false, st.1 + lead (s.drop st.1), 15, (off : Int) + (st.1 + lead (s.drop st.1) : Nat))

theorem leadT_le (l : List UInt8) : lead l ≤ l.length := by unfold lead; omega

theorem zrR_le (s : List UInt8) (off : Nat) (st : RSt) (h : st.1 ≤ s.length) : (zrR s off st).2.1 ≤ s.length := by
  have h3 := leadT_le (s.drop st.1)
  rw [List.length_drop] at h3
  unfold zrR
  split
  · exact h
  · split
    · exact Nat.le_refl _
    · show st.1 + lead (s.drop st.1) ≤ s.length
      omega

theorem zrR_bad (s : List UInt8) (off : Nat) (st : RSt) (h : st.2.1 ≠ 0) : zrR s off st = (false, st) := by unfold zrR; rw [if_pos h]

theorem zrR_no (s : List UInt8) (off : Nat) (st : RSt) (h : (zrR s off st).1 = false) : (zrR s off st).2.2.1 ≠ 0 := by
  unfold zrR at h ⊢
  split
  · assumption
  · rename_i h1
    rw [if_neg h1] at h
    split
    · rename_i h2
      rw [if_pos h2] at h
      cases h
    · exact (show (15 : Int) ≠ 0 by decide)

theorem zrR_yes (s : List UInt8) (off : Nat) (st : RSt) (h : (zrR s off st).1 = true) : st.2.1 = 0 ∧ st.1 + lead (s.drop st.1) = s.length ∧ (zrR s off st).2 = (s.length, st.2) := by
  unfold zrR at h ⊢
  by_cases h1 : st.2.1 ≠ 0
  · rw [if_pos h1] at h; cases h
  · rw [if_neg h1] at h ⊢
    by_cases h2 : st.1 + lead (s.drop st.1) = s.length
    · rw [if_pos h2]
      exact ⟨by simpa using h1, h2, rfl⟩
    · rw [if_neg h2] at h; cases h




end Go.Proofs.YtkfhcblgfndoaaaDoor
