/- arp.Read at every text. -/
import Derived.Test.YtjoepmfineinfaaDoorBlk
import Derived.Test.YtjoepmfineinfaaDoorArReadA
import Derived.Test.YtjoepmfineinfaaDoorArReadB
import Derived.Test.YtjoepmfineinfaaDoorPlaced
namespace Go.Proofs.YtjoepmfineinfaaDoor
open Go.RowKit
attribute [local go_sem ↓] Go.wp_at_zero Go.wp_at_succ
set_option linter.unusedSimpArgs false
set_option linter.unusedVariables false
set_option maxRecDepth 100000

theorem arE_ne (l : List UInt8) (h : (ar9 l).1 = false) : arE l ≠ 0 := zrR_no _ _ _ h

theorem ar_good (l : List UInt8) (h : (ar9 l).1 = true) : arE l = 0 ∧ arP l = -1 := by
  have h8 := (zrR_yes _ _ _ h).1
  have e9 : (ar9 l).2.2 = (ar8 l).2.2 := by rw [show (ar9 l).2 = (l.length, (ar8 l).2.2) from (zrR_yes _ _ _ h).2.2]
  have e8 := tkN_ok l 0 (ar7 l).2 4 false h8
  have e7 := tkN_ok l 0 (ar6 l).2 6 false e8.1
  have e6 := tkN_ok l 0 (ar5 l).2 4 false e7.1
  have e5 := tkN_ok l 0 (ar4 l) 6 false e6.1
  have p8 : (ar8 l).2.2 = (ar7 l).2.2 := by show (tkN l 0 (ar7 l).2 (4 : Nat) false).2.2 = _; rw [e8.2.2]
  have p7 : (ar7 l).2.2 = (ar6 l).2.2 := by show (tkN l 0 (ar6 l).2 (6 : Nat) false).2.2 = _; rw [e7.2.2]
  have p6 : (ar6 l).2.2 = (ar5 l).2.2 := by show (tkN l 0 (ar5 l).2 (4 : Nat) false).2.2 = _; rw [e6.2.2]
  have p5 : (ar5 l).2.2 = (ar4 l).2 := by show (tkN l 0 (ar4 l) (6 : Nat) false).2.2 = _; rw [e5.2.2]
  have h4 := e5.1
  have p4 : (ar4 l).2 = (ar3 l).2.2 := by
    unfold ar4 at h4 ⊢
    split
    · rfl
    · rename_i q
      rw [if_neg q] at h4
      exact absurd h4 (flR_ne _ _ _ (by decide))
  have h3 : (ar3 l).2.2.1 = 0 := by rw [← p4]; exact h4
  have e3 := tkN_ok l 0 (ar2 l) 2 true h3
  have p3 : (ar3 l).2.2 = (ar2 l).2 := by show (tkN l 0 (ar2 l) (2 : Nat) true).2.2 = _; rw [e3.2.2]
  have h2 := e3.1
  have p2 : (ar2 l).2 = (ar1 l).2.2 := by
    unfold ar2 at h2 ⊢
    split
    · rfl
    · rename_i q
      rw [if_neg q] at h2
      exact absurd h2 (flR_ne _ _ _ (by decide))
  have h1 : (ar1 l).2.2.1 = 0 := by rw [← p2]; exact h2
  have e1 := tkN_ok l 0 (0, 0, -1) 6 false h1
  have p1 : (ar1 l).2.2 = (0, -1) := by show (tkN l 0 (0, 0, -1) (6 : Nat) false).2.2 = _; rw [e1.2.2]
  have hall : (ar9 l).2.2 = (0, -1) := by rw [e9, p8, p7, p6, p5, p4, p3, p2, p1]
  unfold arE arP
  rw [hall]
  exact ⟨rfl, rfl⟩

theorem ar_right (l : List UInt8) (h : (ar9 l).1 = true) : arOp l = 1 ∨ arOp l = 2 := by
  by_cases q : arOp l = 1 ∨ arOp l = 2
  · exact q
  · have h4 : (ar4 l).2.1 ≠ 0 := by unfold ar4; rw [if_neg q]; exact flR_ne _ _ _ (by decide)
    rw [ar_from4 l h4] at h
    cases h

theorem arRead_any (s : ByteArray) (w : World) (hs : s.size ≤ 300) :
    Calls Tryd.prog 9 #[.string s] w (ReadsAs (arC (arRes s.data.toList)) (arE s.data.toList) (arP s.data.toList) w) := by
  cases hz : (ar9 s.data.toList).1 with
  | true =>
    obtain ⟨e1, e2⟩ := ar_good _ hz
    have e3 : arRes s.data.toList = arOf s.data.toList := by unfold arRes; rw [hz]; rfl
    have hr := ar_right _ hz
    have hh : (ar1 s.data.toList).1 = arHead := by
      by_cases q : (ar1 s.data.toList).1 = arHead
      · exact q
      · have h2 : (ar2 s.data.toList).2.1 ≠ 0 := by unfold ar2; rw [if_neg q]; exact flR_ne _ _ _ (by decide)
        rw [ar_from2 _ h2] at hz
        cases hz
    rw [e1, e2, e3]
    exact (arRead_ttt s w hs hh hr hz).mono fun e w' h => ⟨_, h.1, ErrAs.nil, h.2⟩
  | false =>
    have hne := arE_ne _ hz
    have e3 : arRes s.data.toList = zAr := by unfold arRes; rw [hz]; rfl
    rw [e3]
    have fin : ∀ e w', (∃ q, e = Ending.returned (.tuple #[.agg (arC zAr), .iface 102 (.pointer (some ⟨q, 0, none⟩))]) ∧ Flt w' q (arE s.data.toList) (arP s.data.toList) ∧ Below w.heap.size w w') → ReadsAs (arC zAr) (arE s.data.toList) (arP s.data.toList) w e w' := fun e w' ⟨q, h1, h2, h3⟩ => ⟨_, h1, Or.inr ⟨hne, q, rfl, h2⟩, h3⟩
    by_cases hh : (ar1 s.data.toList).1 = arHead
    · by_cases hr : arOp s.data.toList = 1 ∨ arOp s.data.toList = 2
      · exact (arRead_ttf s w hs hh hr hz).mono fin
      · exact (arRead_tff s w hs hh hr hz).mono fin
    · have h2 : (ar2 s.data.toList).2.1 ≠ 0 := by unfold ar2; rw [if_neg hh]; exact flR_ne _ _ _ (by decide)
      have h3 : ar3 s.data.toList = ([], ar2 s.data.toList) := tkN_bad _ _ _ _ _ h2
      have h0 : arOp s.data.toList = 0 := by unfold arOp; rw [h3]; rfl
      exact (arRead_fff s w hs hh (by rw [h0]; decide) hz).mono fin

end Go.Proofs.YtjoepmfineinfaaDoor
