/- 6.1: what reading makes of bytes. -/
import Derived.Test.YtjoepmfineinfaaDoorCurZ
import Derived.Test.YtjoepmfineinfaaDoorBlk
import Derived.Test.YtjoepmfineinfaaDoorCaught
import Derived.Test.YtjoepmfineinfaaDoorAr
namespace Go.Proofs.YtjoepmfineinfaaDoor
open Go.RowKit
attribute [local go_sem ↓] Go.wp_at_zero Go.wp_at_succ
set_option linter.unusedSimpArgs false
set_option linter.unusedVariables false
set_option maxRecDepth 100000

def arHead : List UInt8 := [0, 1, 8, 0, 6, 4]

def ar1 (l : List UInt8) : List UInt8 × RSt := tkN l 0 (0, 0, -1) 6 false

def ar2 (l : List UInt8) : RSt := if (ar1 l).1 = arHead then (ar1 l).2 else flR (ar1 l).2 3 0

def ar3 (l : List UInt8) : List UInt8 × RSt := tkN l 0 (ar2 l) 2 true

def arOp (l : List UInt8) : Nat := beN (ar3 l).1

def ar4 (l : List UInt8) : RSt := if arOp l = 1 ∨ arOp l = 2 then (ar3 l).2 else flR (ar3 l).2 2 6

def ar5 (l : List UInt8) : List UInt8 × RSt := tkN l 0 (ar4 l) 6 false

def ar6 (l : List UInt8) : List UInt8 × RSt := tkN l 0 (ar5 l).2 4 false

def ar7 (l : List UInt8) : List UInt8 × RSt := tkN l 0 (ar6 l).2 6 false

def ar8 (l : List UInt8) : List UInt8 × RSt := tkN l 0 (ar7 l).2 4 false

def ar9 (l : List UInt8) : Bool × RSt := zrR l 0 (ar8 l).2

/-- What is read. -/
def arOf (l : List UInt8) : Ar := ⟨arOp l, byX (ar5 l).1, byX (ar7 l).1, byX (ar6 l).1, byX (ar8 l).1⟩

theorem ar1_le (l : List UInt8) : (ar1 l).2.1 ≤ l.length := tkN_le l 0 _ _ _ (Nat.zero_le _)

theorem ar2_le (l : List UInt8) : (ar2 l).1 ≤ l.length := by unfold ar2; split; exact ar1_le l; exact flR_le l _ _ _ (ar1_le l)

theorem ar3_le (l : List UInt8) : (ar3 l).2.1 ≤ l.length := tkN_le l 0 _ _ _ (ar2_le l)

theorem ar4_le (l : List UInt8) : (ar4 l).1 ≤ l.length := by unfold ar4; split; exact ar3_le l; exact flR_le l _ _ _ (ar3_le l)

theorem ar5_le (l : List UInt8) : (ar5 l).2.1 ≤ l.length := tkN_le l 0 _ _ _ (ar4_le l)

theorem ar6_le (l : List UInt8) : (ar6 l).2.1 ≤ l.length := tkN_le l 0 _ _ _ (ar5_le l)

theorem ar7_le (l : List UInt8) : (ar7 l).2.1 ≤ l.length := tkN_le l 0 _ _ _ (ar6_le l)

theorem ar8_le (l : List UInt8) : (ar8 l).2.1 ≤ l.length := tkN_le l 0 _ _ _ (ar7_le l)

theorem beN_two (l : List UInt8) (h : l.length ≤ 2) : beN l < 65536 := by
  have h1 := beN_lt l
  have h2 : 256 ^ l.length ≤ 256 ^ 2 := Nat.pow_le_pow_right (by decide) h
  omega

theorem tkN_short (s : List UInt8) (off : Nat) (st : RSt) (n : Nat) (num : Bool) : (tkN s off st n num).1.length ≤ n := by
  rcases tkN_len s off st n num with h | h
  · rw [h]; exact Nat.zero_le _
  · omega

theorem arOp_lt (l : List UInt8) : arOp l < 65536 := beN_two _ (tkN_short l 0 (ar2 l) 2 true)

/-- What is wrong at some step is what is wrong in the end. -/
theorem ar_from2 (l : List UInt8) (h : (ar2 l).2.1 ≠ 0) : ar9 l = (false, ar2 l) := by
  have e3 : ar3 l = ([], ar2 l) := tkN_bad _ _ _ _ _ h
  have e4 : ar4 l = ar2 l := by unfold ar4; rw [e3]; split; rfl; exact flR_bad _ _ _ h
  have e5 : ar5 l = ([], ar2 l) := by unfold ar5; rw [e4]; exact tkN_bad _ _ _ _ _ h
  have e6 : ar6 l = ([], ar2 l) := by unfold ar6; rw [e5]; exact tkN_bad _ _ _ _ _ h
  have e7 : ar7 l = ([], ar2 l) := by unfold ar7; rw [e6]; exact tkN_bad _ _ _ _ _ h
  have e8 : ar8 l = ([], ar2 l) := by unfold ar8; rw [e7]; exact tkN_bad _ _ _ _ _ h
  unfold ar9; rw [e8]; exact zrR_bad _ _ _ h

theorem ar_from4 (l : List UInt8) (h : (ar4 l).2.1 ≠ 0) : ar9 l = (false, ar4 l) := by
  have e5 : ar5 l = ([], ar4 l) := tkN_bad _ _ _ _ _ h
  have e6 : ar6 l = ([], ar4 l) := by unfold ar6; rw [e5]; exact tkN_bad _ _ _ _ _ h
  have e7 : ar7 l = ([], ar4 l) := by unfold ar7; rw [e6]; exact tkN_bad _ _ _ _ _ h
  have e8 : ar8 l = ([], ar4 l) := by unfold ar8; rw [e7]; exact tkN_bad _ _ _ _ _ h
  unfold ar9; rw [e8]; exact zrR_bad _ _ _ h

theorem ar_from5 (l : List UInt8) (h : (ar5 l).2.2.1 ≠ 0) : ar9 l = (false, (ar5 l).2) := by
  have e6 : ar6 l = ([], (ar5 l).2) := tkN_bad _ _ _ _ _ h
  have e7 : ar7 l = ([], (ar5 l).2) := by unfold ar7; rw [e6]; exact tkN_bad _ _ _ _ _ h
  have e8 : ar8 l = ([], (ar5 l).2) := by unfold ar8; rw [e7]; exact tkN_bad _ _ _ _ _ h
  unfold ar9; rw [e8]; exact zrR_bad _ _ _ h

theorem ar_from6 (l : List UInt8) (h : (ar6 l).2.2.1 ≠ 0) : ar9 l = (false, (ar6 l).2) := by
  have e7 : ar7 l = ([], (ar6 l).2) := tkN_bad _ _ _ _ _ h
  have e8 : ar8 l = ([], (ar6 l).2) := by unfold ar8; rw [e7]; exact tkN_bad _ _ _ _ _ h
  unfold ar9; rw [e8]; exact zrR_bad _ _ _ h

theorem ar_from7 (l : List UInt8) (h : (ar7 l).2.2.1 ≠ 0) : ar9 l = (false, (ar7 l).2) := by
  have e8 : ar8 l = ([], (ar7 l).2) := tkN_bad _ _ _ _ _ h
  unfold ar9; rw [e8]; exact zrR_bad _ _ _ h

theorem ar_from8 (l : List UInt8) (h : (ar8 l).2.2.1 ≠ 0) : ar9 l = (false, (ar8 l).2) := zrR_bad _ _ _ h

/-- The ways through, one behind the other. -/
theorem ar_ways (l : List UInt8) :
    (¬ 6 ≤ l.length ∧ ar9 l = (false, 0, 7, 0)) ∨
    (6 ≤ l.length ∧ l.take 6 ≠ arHead ∧ ∃ p, ar9 l = (false, p, 3, 0)) ∨
    (6 ≤ l.length ∧ l.take 6 = arHead ∧ ((¬ 8 ≤ l.length ∧ ar9 l = (false, 6, 7, 6)) ∨
    (8 ≤ l.length ∧ arOp l = beN ((l.drop 6).take 2) ∧ ((¬ (arOp l = 1 ∨ arOp l = 2) ∧ ∃ p, ar9 l = (false, p, 2, 6)) ∨
    ((arOp l = 1 ∨ arOp l = 2) ∧ ((¬ 14 ≤ l.length ∧ ar9 l = (false, 8, 7, 8)) ∨
    (14 ≤ l.length ∧ (ar5 l).1 = (l.drop 8).take 6 ∧ ((¬ 18 ≤ l.length ∧ ar9 l = (false, 14, 7, 14)) ∨
    (18 ≤ l.length ∧ (ar6 l).1 = (l.drop 14).take 4 ∧ ((¬ 24 ≤ l.length ∧ ar9 l = (false, 18, 7, 18)) ∨
    (24 ≤ l.length ∧ (ar7 l).1 = (l.drop 18).take 6 ∧ ((¬ 28 ≤ l.length ∧ ar9 l = (false, 24, 7, 24)) ∨
    (28 ≤ l.length ∧ (ar8 l).1 = (l.drop 24).take 4 ∧ ar9 l = zrR l 0 (28, 0, -1)))))))))))))) := by
  by_cases h6 : 6 ≤ l.length
  · have e1 : ar1 l = (l.take 6, 6, 0, -1) := by have := tkN_go l 0 (0, 0, -1) 6 false rfl (by simpa using h6) (by simp); simpa [ar1] using this
    by_cases hh : l.take 6 = arHead
    · refine Or.inr (Or.inr ⟨h6, hh, ?_⟩)
      have e2 : ar2 l = (6, 0, -1) := by unfold ar2; rw [e1, if_pos hh]
      by_cases h8 : 8 ≤ l.length
      · have e3 : ar3 l = ((l.drop 6).take 2, 8, 0, -1) := by unfold ar3; rw [e2]; exact tkN_go l 0 (6, 0, -1) 2 true rfl h8 (by simp)
        refine Or.inr ⟨h8, by unfold arOp; rw [e3], ?_⟩
        by_cases ho : arOp l = 1 ∨ arOp l = 2
        · refine Or.inr ⟨ho, ?_⟩
          have e4 : ar4 l = (8, 0, -1) := by unfold ar4; rw [if_pos ho, e3]
          by_cases h14 : 14 ≤ l.length
          · have e5 : ar5 l = ((l.drop 8).take 6, 14, 0, -1) := by unfold ar5; rw [e4]; exact tkN_go l 0 (8, 0, -1) 6 false rfl h14 (by simp)
            refine Or.inr ⟨h14, by rw [e5], ?_⟩
            by_cases h18 : 18 ≤ l.length
            · have e6 : ar6 l = ((l.drop 14).take 4, 18, 0, -1) := by unfold ar6; rw [e5]; exact tkN_go l 0 (14, 0, -1) 4 false rfl h18 (by simp)
              refine Or.inr ⟨h18, by rw [e6], ?_⟩
              by_cases h24 : 24 ≤ l.length
              · have e7 : ar7 l = ((l.drop 18).take 6, 24, 0, -1) := by unfold ar7; rw [e6]; exact tkN_go l 0 (18, 0, -1) 6 false rfl h24 (by simp)
                refine Or.inr ⟨h24, by rw [e7], ?_⟩
                by_cases h28 : 28 ≤ l.length
                · have e8 : ar8 l = ((l.drop 24).take 4, 28, 0, -1) := by unfold ar8; rw [e7]; exact tkN_go l 0 (24, 0, -1) 4 false rfl h28 (by simp)
                  exact Or.inr ⟨h28, by rw [e8], by unfold ar9; rw [e8]⟩
                · have e8 : ar8 l = ([], 24, 7, 24) := by unfold ar8; rw [e7]; exact tkN_miss l 0 (24, 0, -1) 4 false rfl h28 (by omega) (by simp)
                  exact Or.inl ⟨h28, by rw [ar_from8 l (by rw [e8]; decide), e8]⟩
              · have e7 : ar7 l = ([], 18, 7, 18) := by unfold ar7; rw [e6]; exact tkN_miss l 0 (18, 0, -1) 6 false rfl h24 (by omega) (by simp)
                exact Or.inl ⟨h24, by rw [ar_from7 l (by rw [e7]; decide), e7]⟩
            · have e6 : ar6 l = ([], 14, 7, 14) := by unfold ar6; rw [e5]; exact tkN_miss l 0 (14, 0, -1) 4 false rfl h18 (by omega) (by simp)
              exact Or.inl ⟨h18, by rw [ar_from6 l (by rw [e6]; decide), e6]⟩
          · have e5 : ar5 l = ([], 8, 7, 8) := by unfold ar5; rw [e4]; exact tkN_miss l 0 (8, 0, -1) 6 false rfl h14 (by omega) (by simp)
            exact Or.inl ⟨h14, by rw [ar_from5 l (by rw [e5]; decide), e5]⟩
        · have e4 : ar4 l = (8, 2, 6) := by unfold ar4; rw [if_neg ho, e3]; rfl
          exact Or.inl ⟨ho, 8, by rw [ar_from4 l (by rw [e4]; decide), e4]⟩
      · have e3 : ar3 l = ([], 6, 7, 6) := by unfold ar3; rw [e2]; exact tkN_miss l 0 (6, 0, -1) 2 true rfl h8 (by omega) (by simp)
        have e4 : ar4 l = (6, 7, 6) := by
          unfold ar4; rw [e3]; split
          · rfl
          · exact flR_bad _ _ _ (by decide)
        exact Or.inl ⟨h8, by rw [ar_from4 l (by rw [e4]; decide), e4]⟩
    · have e2 : ar2 l = (6, 3, 0) := by unfold ar2; rw [e1, if_neg hh]; rfl
      exact Or.inr (Or.inl ⟨h6, hh, 6, by rw [ar_from2 l (by rw [e2]; decide), e2]⟩)
  · have e1 : ar1 l = ([], 0, 7, 0) := by have := tkN_miss l 0 (0, 0, -1) 6 false rfl (by simpa using h6) (Nat.zero_le _) (by simp); simpa [ar1] using this
    have e2 : ar2 l = (0, 7, 0) := by unfold ar2; rw [e1]; rfl
    exact Or.inl ⟨h6, by rw [ar_from2 l (by rw [e2]; decide), e2]⟩

end Go.Proofs.YtjoepmfineinfaaDoor
