/- What the code's reader makes of a message of many trees, beside what lies there: plain. -/
import Derived.Test.YtkfhcblgfndoaaaDoorBpWays
import Derived.Test.YtkfhcblgfndoaaaDoorMsRd
import Derived.Test.YtkfhcblgfndoaaaDoorBpAtM
import Derived.Lib.TrimByte
namespace Go.Proofs.YtkfhcblgfndoaaaDoor
open Go.RowKit
set_option linter.unusedVariables false
set_option linter.unusedSimpArgs false

theorem rc_go (l : List UInt8) (st : RSt) (h : st.2.1 = 0) (hn : st.1 + 2 ≤ l.length) (hz : okLen (beN ((l.drop st.1).take 2)) = true) : rcS l st = (st.1 + 2, st.2) ∧ rcN l st = (beN ((l.drop st.1).take 2) - 64) / 16 := by
  obtain ⟨a1, a2⟩ := nm_go l st 2 (by decide) (by decide) h hn
  have a1' : nmS l 0 st 2 = (st.1 + 2, st.2) := a1
  have a2' : nmV l 0 st 2 = beN ((l.drop st.1).take 2) := a2
  unfold rcS rcN
  rw [a2', hz, a1']
  exact ⟨rfl, rfl⟩

theorem rc_form (l : List UInt8) (st : RSt) (h : st.2.1 = 0) (hn : st.1 + 2 ≤ l.length) (hz : ¬ okLen (beN ((l.drop st.1).take 2)) = true) : (rcS l st).2 = (2, (st.1 : Int)) := by
  obtain ⟨a1, a2⟩ := nm_go l st 2 (by decide) (by decide) h hn
  have a1' : nmS l 0 st 2 = (st.1 + 2, st.2) := a1
  have a2' : nmV l 0 st 2 = beN ((l.drop st.1).take 2) := a2
  unfold rcS
  rw [a2', if_neg hz, a1']
  unfold flR
  rw [if_neg (by simpa using h)]

theorem rc_miss (l : List UInt8) (st : RSt) (h : st.2.1 = 0) (hn : ¬ st.1 + 2 ≤ l.length) (hp : st.1 ≤ l.length) : rcS l st = (st.1, 7, (st.1 : Int)) := by
  have a1 : nmS l 0 st 2 = (st.1, 7, (st.1 : Int)) := nm_miss l st 2 (by decide) (by decide) h hn hp
  unfold rcS
  rw [a1]
  split
  · rfl
  · exact flR_bad _ 2 _ (by simp)

theorem rc_bad (l : List UInt8) (st : RSt) (h : ¬ st.2.1 = 0) : rcS l st = st := by
  have a1 : nmS l 0 st 2 = st := nm_bad l st 2 h
  unfold rcS
  rw [a1]
  split
  · rfl
  · exact flR_bad _ 2 _ h

theorem tk_go (l : List UInt8) (st : RSt) (n : Nat) (h : st.2.1 = 0) (hn : st.1 + n ≤ l.length) : tkN l 0 st (n : Int) false = ((l.drop st.1).take n, st.1 + n, st.2) := tkN_go l 0 st n false h hn (by simp)

theorem tk_miss (l : List UInt8) (st : RSt) (n : Nat) (h : st.2.1 = 0) (hn : ¬ st.1 + n ≤ l.length) (hp : st.1 ≤ l.length) : (tkN l 0 st (n : Int) false).2 = (st.1, 7, (st.1 : Int)) := by
  rw [tkN_miss l 0 st n false h hn hp (by simp)]
  simp

/-- The states of a reader of a message, one behind the other. -/
def mh1 (l : List UInt8) : RSt := exS l (0, 0, -1) [0, 0, 3, 2]

def mh2 (l : List UInt8) : RSt := sb9 l 0 (mh1 l)

def mh3 (l : List UInt8) : RSt := exS l (mh2 l) [0]

def mh4 (l : List UInt8) : RSt := rcS l (mh3 l)

def mh5 (l : List UInt8) : RSt := exS l (mh4 l) [0]

def mh6 (l : List UInt8) : RSt := (tkN l 0 (mh5 l) 32 false).2

def mh7 (l : List UInt8) : RSt := nmS l 0 (mh6 l) 2

def mh8 (l : List UInt8) : RSt := (tkN l 0 (mh7 l) 16 false).2

def mh9 (l : List UInt8) : RSt := nmS l 0 (mh8 l) 4

def mh10 (l : List UInt8) : RSt := rdBs l 0 (mh9 l)

def mh11 (l : List UInt8) : RSt := nmS l 0 (mh10 l) 1

/-- What is read. -/
def rdMs (l : List UInt8) : Ms := ⟨rbB l 0 (mh1 l) 3, ⟨(Lib.trimRightB (tkN l 0 (mh5 l) 32 false).1 0).toArray⟩, (nmV l 0 (mh6 l) 2 : Nat), ⟨(tkN l 0 (mh7 l) 16 false).1.toArray⟩, (nmV l 0 (mh8 l) 4 : Nat), rdB l 0 (mh9 l), (nmV l 0 (mh10 l) 1 : Nat)⟩

/-- The states of a reader of instances. -/
def itS (l : List UInt8) (st : RSt) : Nat → RSt
  | 0 => st
  | k + 1 => si6 l (itS l st k)

def itV (l : List UInt8) (st : RSt) (n : Nat) : List Ins := (List.range n).map fun k => riV l (itS l st k)

theorem itV_succ (l : List UInt8) (st : RSt) (n : Nat) : itV l st (n + 1) = itV l st n ++ [riV l (itS l st n)] := by
  unfold itV
  rw [List.range_succ, List.map_append]
  rfl

theorem itV_len (l : List UInt8) (st : RSt) (n : Nat) : (itV l st n).length = n := by simp [itV]

theorem itS_le (l : List UInt8) (st : RSt) (h : st.1 ≤ l.length) : ∀ n, (itS l st n).1 ≤ l.length
  | 0 => h
  | n + 1 => si6_le l _ (itS_le l st h n)

/-- What lies there. -/
def inAt (s : ByteArray) (p : Nat) : Ins := ⟨ofF (numAt s p 1), brAt s (p + 1), (numAt s (p + 9) 4 : Nat), (numAt s (p + 13) 1 / 16 : Nat), (numAt s (p + 14) 1 / 16 : Nat), (numAt s (p + 15) 1 : Nat)⟩

def bsAt (s : ByteArray) (p n : Nat) : List UInt8 := (s.data.toList.drop p).take n

def msAt (s : ByteArray) : Ms := ⟨bpAt s 4 3, ⟨(Lib.trimRightB (bsAt s 39 32) 0).toArray⟩, (numAt s 71 2 : Nat), ⟨(bsAt s 73 16).toArray⟩, (numAt s 89 4 : Nat), brAt s 93, (numAt s 101 1 : Nat)⟩

def cntAt (s : ByteArray) : Nat := (numAt s 36 2 - 64) / 16

def insAt (s : ByteArray) (p n : Nat) : List Ins := (List.range n).map fun k => inAt s (p + 16 * k)

theorem insAt_succ (s : ByteArray) (p n : Nat) : insAt s p (n + 1) = insAt s p n ++ [inAt s (p + 16 * n)] := by
  unfold insAt
  rw [List.range_succ, List.map_append]
  rfl

theorem insAt_len (s : ByteArray) (p n : Nat) : (insAt s p n).length = n := by simp [insAt]

/-- What is wrong first, and where: ahead of the instances; in one; in all. -/
def mE (s : ByteArray) : Option (Int × Nat) :=
  if s.size < 4 then some (7, 0) else
  if ¬ hdAt s = [0, 0, 3, 2] then some (3, 0) else
  if (bdE s.size 4 (pzAt s 25)).isSome = true then bdE s.size 4 (pzAt s 25) else
  if s.size < 36 then some (7, 35) else
  if ¬ bsAt s 35 1 = [0] then some (3, 35) else
  if s.size < 38 then some (7, 36) else
  if ¬ okLen (numAt s 36 2) = true then some (2, 36) else
  if s.size < 39 then some (7, 38) else
  if ¬ bsAt s 38 1 = [0] then some (3, 38) else
  if s.size < 71 then some (7, 39) else
  if s.size < 73 then some (7, 71) else
  if s.size < 89 then some (7, 73) else
  if s.size < 93 then some (7, 89) else
  if s.size < 95 then some (7, 93) else
  if s.size < 101 then some (7, 95) else
  if s.size < 102 then some (7, 101) else
  none

def inE (n p : Nat) : Option (Int × Nat) :=
  if n < p + 1 then some (7, p) else
  if n < p + 3 then some (7, p + 1) else
  if n < p + 9 then some (7, p + 3) else
  if n < p + 13 then some (7, p + 9) else
  if n < p + 14 then some (7, p + 13) else
  if n < p + 15 then some (7, p + 14) else
  if n < p + 16 then some (7, p + 15) else
  none

def insE (n p : Nat) : Nat → Option (Int × Nat)
  | 0 => none
  | k + 1 => if (insE n p k).isSome = true then insE n p k else inE n (p + 16 * k)

def allE (s : ByteArray) : Option (Int × Nat) := if (mE s).isSome = true then mE s else insE s.size 102 (cntAt s)

theorem si6_bad (l : List UInt8) (st : RSt) (h : ¬ st.2.1 = 0) : si6 l st = st := by
  have e1 : si1 l st = st := nm_bad l st 1 h
  have e2 : si2 l st = st := by unfold si2; rw [e1]; exact br_bad l st h
  have e3 : si3 l st = st := by unfold si3; rw [e2]; exact nm_bad l st 4 h
  have e4 : si4 l st = st := by unfold si4; rw [e3]; exact nm_bad l st 1 h
  have e5 : si5 l st = st := by unfold si5; rw [e4]; exact nm_bad l st 1 h
  unfold si6; rw [e5]; exact nm_bad l st 1 h

theorem itS_bad (l : List UInt8) (st : RSt) (h : ¬ st.2.1 = 0) : ∀ n, itS l st n = st
  | 0 => rfl
  | n + 1 => by
    show si6 l (itS l st n) = st
    rw [itS_bad l st h n]
    exact si6_bad l st h

section
variable (l : List UInt8) (st : RSt)

theorem ibad5 (h : ¬ (si5 l st).2.1 = 0) : si6 l st = si5 l st := nm_bad l _ 1 h

theorem ibad4 (h : ¬ (si4 l st).2.1 = 0) : si6 l st = si4 l st := by
  have e : si5 l st = si4 l st := nm_bad l _ 1 h
  rw [ibad5 l st (by rw [e]; exact h), e]

theorem ibad3 (h : ¬ (si3 l st).2.1 = 0) : si6 l st = si3 l st := by
  have e : si4 l st = si3 l st := nm_bad l _ 1 h
  rw [ibad4 l st (by rw [e]; exact h), e]

theorem ibad2 (h : ¬ (si2 l st).2.1 = 0) : si6 l st = si2 l st := by
  have e : si3 l st = si2 l st := nm_bad l _ 4 h
  rw [ibad3 l st (by rw [e]; exact h), e]

theorem ibad1 (h : ¬ (si1 l st).2.1 = 0) : si6 l st = si1 l st := by
  have e : si2 l st = si1 l st := br_bad l _ h
  rw [ibad2 l st (by rw [e]; exact h), e]
end

/-- An instance, both ways. -/
theorem in_ways (s : ByteArray) (p : Nat) (hp : p ≤ s.size) :
    (∃ e x, inE s.size p = some (e, x) ∧ e ≠ 0 ∧ (si6 s.data.toList (p, 0, -1)).2 = (e, (x : Int))) ∨
    (inE s.size p = none ∧ p + 16 ≤ s.size ∧ si6 s.data.toList (p, 0, -1) = (p + 16, 0, -1) ∧ riV s.data.toList (p, 0, -1) = inAt s p) := by
  have hl : s.data.toList.length = s.size := by simp
  generalize hL : s.data.toList = l at *
  have hbe : ∀ q, beAt s q = beN ((l.drop q).take 2) := fun q => by unfold beAt; rw [hL]
  have hnu : ∀ q n, numAt s q n = beN ((l.drop q).take n) := fun q n => by unfold numAt; rw [hL]
  by_cases q0 : s.size < p + 1
  · refine Or.inl ⟨7, p, by unfold inE; simp only [if_pos q0], by decide, ?_⟩
    have e : si1 l (p, 0, -1) = (p, 7, ((p : Nat) : Int)) := by
      have e := nm_miss l (p, 0, -1) 1 (by decide) (by decide) (by rfl) (by show ¬ p + 1 ≤ l.length; omega) (by show p ≤ l.length; omega)
      exact e
    rw [ibad1 l _ (by rw [e]; simp), e]
  obtain ⟨e1, v1⟩ := nm_go l (p, 0, -1) 1 (by decide) (by decide) (by rfl) (by show p + 1 ≤ l.length; omega)
  replace e1 : si1 l (p, 0, -1) = (p + 1, 0, -1) := e1
  by_cases q1 : s.size < p + 3
  · refine Or.inl ⟨7, p + 1, by unfold inE; simp only [if_neg q0, if_pos q1], by decide, ?_⟩
    have e : si2 l (p, 0, -1) = (p + 1, 7, ((p + 1 : Nat) : Int)) := by
      have e := br_miss1 l (si1 l (p, 0, -1)) (by rw [e1]) (by rw [e1]; show ¬ p + 1 + 2 ≤ l.length; omega) (by rw [e1]; show p + 1 ≤ l.length; omega)
      rw [e1] at e
      unfold si2; rw [e1]; exact e
    rw [ibad2 l _ (by rw [e]; simp), e]
  by_cases q3 : s.size < p + 9
  · refine Or.inl ⟨7, p + 3, by unfold inE; simp only [if_neg q0, if_neg q1, if_pos q3], by decide, ?_⟩
    have e : si2 l (p, 0, -1) = (p + 3, 7, ((p + 3 : Nat) : Int)) := by
      have e := br_miss2 l (si1 l (p, 0, -1)) (by rw [e1]) (by rw [e1]; show p + 1 + 2 ≤ l.length; omega) (by rw [e1]; show ¬ p + 1 + 8 ≤ l.length; omega)
      rw [e1] at e
      unfold si2; rw [e1]; exact e
    rw [ibad2 l _ (by rw [e]; simp), e]
  obtain ⟨e2, v2⟩ := br_go l (si1 l (p, 0, -1)) (by rw [e1]) (by rw [e1]; show p + 1 + 8 ≤ l.length; omega)
  rw [e1] at e2 v2
  replace e2 : si2 l (p, 0, -1) = (p + 9, 0, -1) := by unfold si2; rw [e1]; exact e2
  by_cases q9 : s.size < p + 13
  · refine Or.inl ⟨7, p + 9, by unfold inE; simp only [if_neg q0, if_neg q1, if_neg q3, if_pos q9], by decide, ?_⟩
    have e : si3 l (p, 0, -1) = (p + 9, 7, ((p + 9 : Nat) : Int)) := by
      have e := nm_miss l (si2 l (p, 0, -1)) 4 (by decide) (by decide) (by rw [e2]) (by rw [e2]; show ¬ p + 9 + 4 ≤ l.length; omega) (by rw [e2]; show p + 9 ≤ l.length; omega)
      rw [e2] at e
      unfold si3; rw [e2]
      exact e
    rw [ibad3 l _ (by rw [e]; simp), e]
  obtain ⟨e3, v3⟩ := nm_go l (si2 l (p, 0, -1)) 4 (by decide) (by decide) (by rw [e2]) (by rw [e2]; show p + 9 + 4 ≤ l.length; omega)
  rw [e2] at e3 v3
  replace e3 : si3 l (p, 0, -1) = (p + 13, 0, -1) := by unfold si3; rw [e2]; exact e3
  by_cases q13 : s.size < p + 14
  · refine Or.inl ⟨7, p + 13, by unfold inE; simp only [if_neg q0, if_neg q1, if_neg q3, if_neg q9, if_pos q13], by decide, ?_⟩
    have e : si4 l (p, 0, -1) = (p + 13, 7, ((p + 13 : Nat) : Int)) := by
      have e := nm_miss l (si3 l (p, 0, -1)) 1 (by decide) (by decide) (by rw [e3]) (by rw [e3]; show ¬ p + 13 + 1 ≤ l.length; omega) (by rw [e3]; show p + 13 ≤ l.length; omega)
      rw [e3] at e
      unfold si4; rw [e3]
      exact e
    rw [ibad4 l _ (by rw [e]; simp), e]
  obtain ⟨e4, v4⟩ := nm_go l (si3 l (p, 0, -1)) 1 (by decide) (by decide) (by rw [e3]) (by rw [e3]; show p + 13 + 1 ≤ l.length; omega)
  rw [e3] at e4 v4
  replace e4 : si4 l (p, 0, -1) = (p + 14, 0, -1) := by unfold si4; rw [e3]; exact e4
  by_cases q14 : s.size < p + 15
  · refine Or.inl ⟨7, p + 14, by unfold inE; simp only [if_neg q0, if_neg q1, if_neg q3, if_neg q9, if_neg q13, if_pos q14], by decide, ?_⟩
    have e : si5 l (p, 0, -1) = (p + 14, 7, ((p + 14 : Nat) : Int)) := by
      have e := nm_miss l (si4 l (p, 0, -1)) 1 (by decide) (by decide) (by rw [e4]) (by rw [e4]; show ¬ p + 14 + 1 ≤ l.length; omega) (by rw [e4]; show p + 14 ≤ l.length; omega)
      rw [e4] at e
      unfold si5; rw [e4]
      exact e
    rw [ibad5 l _ (by rw [e]; simp), e]
  obtain ⟨e5, v5⟩ := nm_go l (si4 l (p, 0, -1)) 1 (by decide) (by decide) (by rw [e4]) (by rw [e4]; show p + 14 + 1 ≤ l.length; omega)
  rw [e4] at e5 v5
  replace e5 : si5 l (p, 0, -1) = (p + 15, 0, -1) := by unfold si5; rw [e4]; exact e5
  by_cases q15 : s.size < p + 16
  · refine Or.inl ⟨7, p + 15, by unfold inE; simp only [if_neg q0, if_neg q1, if_neg q3, if_neg q9, if_neg q13, if_neg q14, if_pos q15], by decide, ?_⟩
    have e : si6 l (p, 0, -1) = (p + 15, 7, ((p + 15 : Nat) : Int)) := by
      have e := nm_miss l (si5 l (p, 0, -1)) 1 (by decide) (by decide) (by rw [e5]) (by rw [e5]; show ¬ p + 15 + 1 ≤ l.length; omega) (by rw [e5]; show p + 15 ≤ l.length; omega)
      rw [e5] at e
      unfold si6; rw [e5]
      exact e
    rw [e]
  obtain ⟨e6, v6⟩ := nm_go l (si5 l (p, 0, -1)) 1 (by decide) (by decide) (by rw [e5]) (by rw [e5]; show p + 15 + 1 ≤ l.length; omega)
  rw [e5] at e6 v6
  replace e6 : si6 l (p, 0, -1) = (p + 16, 0, -1) := by unfold si6; rw [e5]; exact e6
  refine Or.inr ⟨by unfold inE; simp only [if_neg q0, if_neg q1, if_neg q3, if_neg q9, if_neg q13, if_neg q14, if_neg q15], by omega, e6, ?_⟩
  unfold riV inAt
  rw [e1, e2, e3, e4, e5]
  have w1 : nmV l 0 (p, 0, -1) 1 = numAt s p 1 := by rw [hnu]; exact v1
  have w2 : rdB l 0 (p + 1, 0, -1) = brAt s (p + 1) := by unfold brAt; rw [hbe, hL]; exact v2
  have w3 : nmV l 0 (p + 9, 0, -1) 4 = numAt s (p + 9) 4 := by rw [hnu]; exact v3
  have w4 : nmV l 0 (p + 13, 0, -1) 1 = numAt s (p + 13) 1 := by rw [hnu]; exact v4
  have w5 : nmV l 0 (p + 14, 0, -1) 1 = numAt s (p + 14) 1 := by rw [hnu]; exact v5
  have w6 : nmV l 0 (p + 15, 0, -1) 1 = numAt s (p + 15) 1 := by rw [hnu]; exact v6
  rw [w1, w2, w3, w4, w5, w6]

/-- All instances, both ways. -/
theorem it_ways (s : ByteArray) (p : Nat) (hp : p ≤ s.size) : ∀ n,
    (∃ e x, insE s.size p n = some (e, x) ∧ e ≠ 0 ∧ (itS s.data.toList (p, 0, -1) n).2 = (e, (x : Int))) ∨
    (insE s.size p n = none ∧ p + 16 * n ≤ s.size ∧ itS s.data.toList (p, 0, -1) n = (p + 16 * n, 0, -1) ∧ itV s.data.toList (p, 0, -1) n = insAt s p n)
  | 0 => Or.inr ⟨rfl, by omega, rfl, rfl⟩
  | n + 1 => by
    rcases it_ways s p hp n with ⟨e, x, h1, h2, h3⟩ | ⟨h1, h2, h3, h4⟩
    · left
      refine ⟨e, x, ?_, h2, ?_⟩
      · show (if (insE s.size p n).isSome = true then insE s.size p n else inE s.size (p + 16 * n)) = _
        rw [h1]
        rfl
      · show (si6 s.data.toList (itS s.data.toList (p, 0, -1) n)).2 = _
        rw [si6_bad _ _ (by rw [h3]; exact h2), h3]
    · have hE : insE s.size p (n + 1) = inE s.size (p + 16 * n) := by
        show (if (insE s.size p n).isSome = true then insE s.size p n else inE s.size (p + 16 * n)) = _
        rw [h1]
        rfl
      have hS : itS s.data.toList (p, 0, -1) (n + 1) = si6 s.data.toList (p + 16 * n, 0, -1) := by
        show si6 s.data.toList (itS s.data.toList (p, 0, -1) n) = _
        rw [h3]
      rcases in_ways s (p + 16 * n) h2 with ⟨e, x, g1, g2, g3⟩ | ⟨g1, g2, g3, g4⟩
      · exact Or.inl ⟨e, x, by rw [hE, g1], g2, by rw [hS, g3]⟩
      · refine Or.inr ⟨by rw [hE, g1], by omega, by rw [hS, g3, show p + 16 * n + 16 = p + 16 * (n + 1) by omega], ?_⟩
        rw [itV_succ, insAt_succ, h4, h3, g4]

theorem cfB_three (b : Bp) (h : b.k = 3) : cfB b = b := by
  unfold cfB
  rw [if_neg (by omega)]
section
variable (l : List UInt8)

theorem hbad10 (h : ¬ (mh10 l).2.1 = 0) : mh11 l = mh10 l := nm_bad l _ 1 h

theorem hbad9 (h : ¬ (mh9 l).2.1 = 0) : mh11 l = mh9 l := by
  have e : mh10 l = mh9 l := br_bad l _ h
  rw [hbad10 l (by rw [e]; exact h), e]

theorem hbad8 (h : ¬ (mh8 l).2.1 = 0) : mh11 l = mh8 l := by
  have e : mh9 l = mh8 l := nm_bad l _ 4 h
  rw [hbad9 l (by rw [e]; exact h), e]

theorem hbad7 (h : ¬ (mh7 l).2.1 = 0) : mh11 l = mh7 l := by
  have e : mh8 l = mh7 l := (by unfold mh8; rw [tkN_bad l 0 _ _ false h])
  rw [hbad8 l (by rw [e]; exact h), e]

theorem hbad6 (h : ¬ (mh6 l).2.1 = 0) : mh11 l = mh6 l := by
  have e : mh7 l = mh6 l := nm_bad l _ 2 h
  rw [hbad7 l (by rw [e]; exact h), e]

theorem hbad5 (h : ¬ (mh5 l).2.1 = 0) : mh11 l = mh5 l := by
  have e : mh6 l = mh5 l := (by unfold mh6; rw [tkN_bad l 0 _ _ false h])
  rw [hbad6 l (by rw [e]; exact h), e]

theorem hbad4 (h : ¬ (mh4 l).2.1 = 0) : mh11 l = mh4 l := by
  have e : mh5 l = mh4 l := ex_bad l _ [0] (by simp) h
  rw [hbad5 l (by rw [e]; exact h), e]

theorem hbad3 (h : ¬ (mh3 l).2.1 = 0) : mh11 l = mh3 l := by
  have e : mh4 l = mh3 l := rc_bad l _ h
  rw [hbad4 l (by rw [e]; exact h), e]

theorem hbad2 (h : ¬ (mh2 l).2.1 = 0) : mh11 l = mh2 l := by
  have e : mh3 l = mh2 l := ex_bad l _ [0] (by simp) h
  rw [hbad3 l (by rw [e]; exact h), e]

theorem sb_bad (st : RSt) (h : ¬ st.2.1 = 0) : sb9 l 0 st = st := by
  have e : sb1 l 0 st = st := nm_bad l st 1 h
  rw [bad1 l st (by rw [e]; exact h), e]

theorem hbad1 (h : ¬ (mh1 l).2.1 = 0) : mh11 l = mh1 l := by
  have e : mh2 l = mh1 l := sb_bad l _ h
  rw [hbad2 l (by rw [e]; exact h), e]
end

/-- The head, both ways. -/
theorem head_ways (s : ByteArray) :
    (∃ e x, mE s = some (e, x) ∧ e ≠ 0 ∧ (mh11 s.data.toList).2 = (e, (x : Int))) ∨
    (mE s = none ∧ 102 ≤ s.size ∧ okLen (numAt s 36 2) = true ∧ mh11 s.data.toList = (102, 0, -1) ∧ rcN s.data.toList (mh3 s.data.toList) = cntAt s ∧ rdMs s.data.toList = msAt s) := by
  have hl : s.data.toList.length = s.size := by simp
  have hsb := sb_ways s 4
  generalize hL : s.data.toList = l at *
  have hbe : ∀ q, beAt s q = beN ((l.drop q).take 2) := fun q => by unfold beAt; rw [hL]
  have hnu : ∀ q n, numAt s q n = beN ((l.drop q).take n) := fun q n => by unfold numAt; rw [hL]
  have hbs : ∀ q n, bsAt s q n = (l.drop q).take n := fun q n => by unfold bsAt; rw [hL]
  have hhd : hdAt s = (l.drop 0).take 4 := by unfold hdAt; rw [hL]
  by_cases q0 : s.size < 4
  · refine Or.inl ⟨7, 0, by unfold mE; simp only [if_pos q0], by decide, ?_⟩
    have e : mh1 l = (0, 7, ((0 : Nat) : Int)) := by
      exact ex_miss l (0, 0, -1) [0, 0, 3, 2] (by simp) rfl (by show ¬ 0 + 4 ≤ l.length; omega) (Nat.zero_le _)
    rw [hbad1 l (by rw [e]; simp), e]
  by_cases q1 : ¬ hdAt s = [0, 0, 3, 2]
  · refine Or.inl ⟨3, 0, by unfold mE; simp only [if_neg q0, if_pos q1], by decide, ?_⟩
    have e : (mh1 l).2 = (3, ((0 : Nat) : Int)) := ex_form l (0, 0, -1) [0, 0, 3, 2] rfl (by show 0 + 4 ≤ l.length; omega) (show ¬ (l.drop 0).take 4 = [0, 0, 3, 2] by rw [← hhd]; exact q1)
    rw [hbad1 l (by rw [e]; simp), e]
  have e1 : mh1 l = (4, 0, -1) := ex_go l (0, 0, -1) [0, 0, 3, 2] rfl (by show 0 + 4 ≤ l.length; omega) (show (l.drop 0).take 4 = [0, 0, 3, 2] by rw [← hhd]; exact Classical.not_not.1 q1)
  rcases hsb (by omega) 3 with ⟨e, x, h1, h2, h3⟩ | ⟨h1, h2, h3⟩
  · refine Or.inl ⟨e, x, by unfold mE; simp only [if_neg q0, if_neg q1]; rw [h1]; rfl, h2, ?_⟩
    have e2 : (mh2 l).2 = (e, (x : Int)) := by unfold mh2; rw [e1]; exact h3
    rw [hbad2 l (by rw [e2]; exact h2), e2]
  have q2 : ¬ (bdE s.size 4 (pzAt s 25)).isSome = true := by rw [h1]; simp
  have h35 := (bdE_full h1).1
  have e2 : mh2 l = (35, 0, -1) := by unfold mh2; rw [e1]; exact h2
  by_cases q3 : s.size < 36
  · refine Or.inl ⟨7, 35, by unfold mE; simp only [if_neg q0, if_neg q1, if_neg q2, if_pos q3], by decide, ?_⟩
    have e : mh3 l = (35, 7, ((35 : Nat) : Int)) := by
      have e := ex_miss l (mh2 l) [0] (by simp) (by rw [e2]) (by rw [e2]; show ¬ 35 + 1 ≤ l.length; omega) (by rw [e2]; show 35 ≤ l.length; omega)
      rw [e2] at e
      unfold mh3; rw [e2]; exact e
    rw [hbad3 l (by rw [e]; simp), e]
  by_cases q4 : ¬ bsAt s 35 1 = [0]
  · refine Or.inl ⟨3, 35, by unfold mE; simp only [if_neg q0, if_neg q1, if_neg q2, if_neg q3, if_pos q4], by decide, ?_⟩
    have e : (mh3 l).2 = (3, ((35 : Nat) : Int)) := by
      have e := ex_form l (mh2 l) [0] (by rw [e2]) (by rw [e2]; show 35 + 1 ≤ l.length; omega) (by rw [e2, ← hbs]; exact (show ¬ bsAt s 35 1 = [0] from q4))
      rw [e2] at e
      unfold mh3; rw [e2]; exact e
    rw [hbad3 l (by rw [e]; simp), e]
  have e3 : mh3 l = (36, 0, -1) := by
    have e := ex_go l (mh2 l) [0] (by rw [e2]) (by rw [e2]; show 35 + 1 ≤ l.length; omega) (by rw [e2, ← hbs]; exact Classical.not_not.1 q4)
    rw [e2] at e
    unfold mh3; rw [e2]; exact e
  by_cases q5 : s.size < 38
  · refine Or.inl ⟨7, 36, by unfold mE; simp only [if_neg q0, if_neg q1, if_neg q2, if_neg q3, if_neg q4, if_pos q5], by decide, ?_⟩
    have e : mh4 l = (36, 7, ((36 : Nat) : Int)) := by
      have e := rc_miss l (mh3 l) (by rw [e3]) (by rw [e3]; show ¬ 36 + 2 ≤ l.length; omega) (by rw [e3]; show 36 ≤ l.length; omega)
      rw [e3] at e
      unfold mh4; rw [e3]; exact e
    rw [hbad4 l (by rw [e]; simp), e]
  by_cases q6 : ¬ okLen (numAt s 36 2) = true
  · refine Or.inl ⟨2, 36, by unfold mE; simp only [if_neg q0, if_neg q1, if_neg q2, if_neg q3, if_neg q4, if_neg q5, if_pos q6], by decide, ?_⟩
    have e : (mh4 l).2 = (2, ((36 : Nat) : Int)) := by
      have e := rc_form l (mh3 l) (by rw [e3]) (by rw [e3]; show 36 + 2 ≤ l.length; omega) (by rw [e3, ← hnu]; exact q6)
      rw [e3] at e
      unfold mh4; rw [e3]; exact e
    rw [hbad4 l (by rw [e]; simp), e]
  obtain ⟨e4, v4⟩ := rc_go l (mh3 l) (by rw [e3]) (by rw [e3]; show 36 + 2 ≤ l.length; omega) (by rw [e3, ← hnu]; exact Classical.not_not.1 q6)
  rw [e3] at e4
  rw [show (mh3 l).1 = 36 by rw [e3], ← hnu] at v4
  replace e4 : mh4 l = (38, 0, -1) := by unfold mh4; rw [e3]; exact e4
  by_cases q7 : s.size < 39
  · refine Or.inl ⟨7, 38, by unfold mE; simp only [if_neg q0, if_neg q1, if_neg q2, if_neg q3, if_neg q4, if_neg q5, if_neg q6, if_pos q7], by decide, ?_⟩
    have e : mh5 l = (38, 7, ((38 : Nat) : Int)) := by
      have e := ex_miss l (mh4 l) [0] (by simp) (by rw [e4]) (by rw [e4]; show ¬ 38 + 1 ≤ l.length; omega) (by rw [e4]; show 38 ≤ l.length; omega)
      rw [e4] at e
      unfold mh5; rw [e4]; exact e
    rw [hbad5 l (by rw [e]; simp), e]
  by_cases q8 : ¬ bsAt s 38 1 = [0]
  · refine Or.inl ⟨3, 38, by unfold mE; simp only [if_neg q0, if_neg q1, if_neg q2, if_neg q3, if_neg q4, if_neg q5, if_neg q6, if_neg q7, if_pos q8], by decide, ?_⟩
    have e : (mh5 l).2 = (3, ((38 : Nat) : Int)) := by
      have e := ex_form l (mh4 l) [0] (by rw [e4]) (by rw [e4]; show 38 + 1 ≤ l.length; omega) (by rw [e4, ← hbs]; exact (show ¬ bsAt s 38 1 = [0] from q8))
      rw [e4] at e
      unfold mh5; rw [e4]; exact e
    rw [hbad5 l (by rw [e]; simp), e]
  have e5 : mh5 l = (39, 0, -1) := by
    have e := ex_go l (mh4 l) [0] (by rw [e4]) (by rw [e4]; show 38 + 1 ≤ l.length; omega) (by rw [e4, ← hbs]; exact Classical.not_not.1 q8)
    rw [e4] at e
    unfold mh5; rw [e4]; exact e
  by_cases q9 : s.size < 71
  · refine Or.inl ⟨7, 39, by unfold mE; simp only [if_neg q0, if_neg q1, if_neg q2, if_neg q3, if_neg q4, if_neg q5, if_neg q6, if_neg q7, if_neg q8, if_pos q9], by decide, ?_⟩
    have e : mh6 l = (39, 7, ((39 : Nat) : Int)) := by
      have e := tk_miss l (mh5 l) 32 (by rw [e5]) (by rw [e5]; show ¬ 39 + 32 ≤ l.length; omega) (by rw [e5]; show 39 ≤ l.length; omega)
      rw [e5] at e
      unfold mh6; rw [e5]; exact e
    rw [hbad6 l (by rw [e]; simp), e]
  have f6 : tkN l 0 (39, 0, -1) 32 false = ((l.drop 39).take 32, 71, 0, -1) := tk_go l (39, 0, -1) 32 rfl (by show 39 + 32 ≤ l.length; omega)
  have e6 : mh6 l = (71, 0, -1) := by unfold mh6; rw [e5, f6]
  by_cases q10 : s.size < 73
  · refine Or.inl ⟨7, 71, by unfold mE; simp only [if_neg q0, if_neg q1, if_neg q2, if_neg q3, if_neg q4, if_neg q5, if_neg q6, if_neg q7, if_neg q8, if_neg q9, if_pos q10], by decide, ?_⟩
    have e : mh7 l = (71, 7, ((71 : Nat) : Int)) := by
      have e := nm_miss l (mh6 l) 2 (by decide) (by decide) (by rw [e6]) (by rw [e6]; show ¬ 71 + 2 ≤ l.length; omega) (by rw [e6]; show 71 ≤ l.length; omega)
      rw [e6] at e
      unfold mh7; rw [e6]; exact e
    rw [hbad7 l (by rw [e]; simp), e]
  obtain ⟨e7, v7⟩ := nm_go l (mh6 l) 2 (by decide) (by decide) (by rw [e6]) (by rw [e6]; show 71 + 2 ≤ l.length; omega)
  rw [e6] at e7 v7
  replace e7 : mh7 l = (73, 0, -1) := by unfold mh7; rw [e6]; exact e7
  by_cases q11 : s.size < 89
  · refine Or.inl ⟨7, 73, by unfold mE; simp only [if_neg q0, if_neg q1, if_neg q2, if_neg q3, if_neg q4, if_neg q5, if_neg q6, if_neg q7, if_neg q8, if_neg q9, if_neg q10, if_pos q11], by decide, ?_⟩
    have e : mh8 l = (73, 7, ((73 : Nat) : Int)) := by
      have e := tk_miss l (mh7 l) 16 (by rw [e7]) (by rw [e7]; show ¬ 73 + 16 ≤ l.length; omega) (by rw [e7]; show 73 ≤ l.length; omega)
      rw [e7] at e
      unfold mh8; rw [e7]; exact e
    rw [hbad8 l (by rw [e]; simp), e]
  have f8 : tkN l 0 (73, 0, -1) 16 false = ((l.drop 73).take 16, 89, 0, -1) := tk_go l (73, 0, -1) 16 rfl (by show 73 + 16 ≤ l.length; omega)
  have e8 : mh8 l = (89, 0, -1) := by unfold mh8; rw [e7, f8]
  by_cases q12 : s.size < 93
  · refine Or.inl ⟨7, 89, by unfold mE; simp only [if_neg q0, if_neg q1, if_neg q2, if_neg q3, if_neg q4, if_neg q5, if_neg q6, if_neg q7, if_neg q8, if_neg q9, if_neg q10, if_neg q11, if_pos q12], by decide, ?_⟩
    have e : mh9 l = (89, 7, ((89 : Nat) : Int)) := by
      have e := nm_miss l (mh8 l) 4 (by decide) (by decide) (by rw [e8]) (by rw [e8]; show ¬ 89 + 4 ≤ l.length; omega) (by rw [e8]; show 89 ≤ l.length; omega)
      rw [e8] at e
      unfold mh9; rw [e8]; exact e
    rw [hbad9 l (by rw [e]; simp), e]
  obtain ⟨e9, v9⟩ := nm_go l (mh8 l) 4 (by decide) (by decide) (by rw [e8]) (by rw [e8]; show 89 + 4 ≤ l.length; omega)
  rw [e8] at e9 v9
  replace e9 : mh9 l = (93, 0, -1) := by unfold mh9; rw [e8]; exact e9
  by_cases q13 : s.size < 95
  · refine Or.inl ⟨7, 93, by unfold mE; simp only [if_neg q0, if_neg q1, if_neg q2, if_neg q3, if_neg q4, if_neg q5, if_neg q6, if_neg q7, if_neg q8, if_neg q9, if_neg q10, if_neg q11, if_neg q12, if_pos q13], by decide, ?_⟩
    have e : mh10 l = (93, 7, ((93 : Nat) : Int)) := by
      have e := br_miss1 l (mh9 l) (by rw [e9]) (by rw [e9]; show ¬ 93 + 2 ≤ l.length; omega) (by rw [e9]; show 93 ≤ l.length; omega)
      rw [e9] at e
      unfold mh10; rw [e9]; exact e
    rw [hbad10 l (by rw [e]; simp), e]
  by_cases q14 : s.size < 101
  · refine Or.inl ⟨7, 95, by unfold mE; simp only [if_neg q0, if_neg q1, if_neg q2, if_neg q3, if_neg q4, if_neg q5, if_neg q6, if_neg q7, if_neg q8, if_neg q9, if_neg q10, if_neg q11, if_neg q12, if_neg q13, if_pos q14], by decide, ?_⟩
    have e : mh10 l = (95, 7, ((95 : Nat) : Int)) := by
      have e := br_miss2 l (mh9 l) (by rw [e9]) (by rw [e9]; show 93 + 2 ≤ l.length; omega) (by rw [e9]; show ¬ 93 + 8 ≤ l.length; omega)
      rw [e9] at e
      unfold mh10; rw [e9]; exact e
    rw [hbad10 l (by rw [e]; simp), e]
  obtain ⟨e10, v10⟩ := br_go l (mh9 l) (by rw [e9]) (by rw [e9]; show 93 + 8 ≤ l.length; omega)
  rw [e9] at e10 v10
  replace e10 : mh10 l = (101, 0, -1) := by unfold mh10; rw [e9]; exact e10
  by_cases q15 : s.size < 102
  · refine Or.inl ⟨7, 101, by unfold mE; simp only [if_neg q0, if_neg q1, if_neg q2, if_neg q3, if_neg q4, if_neg q5, if_neg q6, if_neg q7, if_neg q8, if_neg q9, if_neg q10, if_neg q11, if_neg q12, if_neg q13, if_neg q14, if_pos q15], by decide, ?_⟩
    have e : mh11 l = (101, 7, ((101 : Nat) : Int)) := by
      have e := nm_miss l (mh10 l) 1 (by decide) (by decide) (by rw [e10]) (by rw [e10]; show ¬ 101 + 1 ≤ l.length; omega) (by rw [e10]; show 101 ≤ l.length; omega)
      rw [e10] at e
      unfold mh11; rw [e10]; exact e
    rw [e]
  obtain ⟨e11, v11⟩ := nm_go l (mh10 l) 1 (by decide) (by decide) (by rw [e10]) (by rw [e10]; show 101 + 1 ≤ l.length; omega)
  rw [e10] at e11 v11
  replace e11 : mh11 l = (102, 0, -1) := by unfold mh11; rw [e10]; exact e11
  refine Or.inr ⟨by unfold mE; simp only [if_neg q0, if_neg q1, if_neg q2, if_neg q3, if_neg q4, if_neg q5, if_neg q6, if_neg q7, if_neg q8, if_neg q9, if_neg q10, if_neg q11, if_neg q12, if_neg q13, if_neg q14, if_neg q15], by omega, Classical.not_not.1 q6, e11, by rw [v4]; rfl, ?_⟩
  unfold rdMs msAt
  rw [e1, e5, e6, e7, e8, e9, e10, f6, f8]
  have hb : rbB l 0 (4, 0, -1) 3 = bpAt s 4 3 := by
    unfold rbB
    rw [h2, if_pos rfl, h3, cfB_three _ rfl]
  have w7 : nmV l 0 (71, 0, -1) 2 = numAt s 71 2 := by rw [hnu]; exact v7
  have w9 : nmV l 0 (89, 0, -1) 4 = numAt s 89 4 := by rw [hnu]; exact v9
  have w10 : rdB l 0 (93, 0, -1) = brAt s 93 := by unfold brAt; rw [hbe, hL]; exact v10
  have w11 : nmV l 0 (101, 0, -1) 1 = numAt s 101 1 := by rw [hnu]; exact v11
  rw [hb, w7, w9, w10, w11, hbs, hbs]

/-- The state behind the last instance. -/
def mhF (l : List UInt8) : RSt := itS l (mh11 l) (rcN l (mh3 l))

/-- All of it, both ways. -/
theorem all_ways (s : ByteArray) :
    (∃ e x, allE s = some (e, x) ∧ e ≠ 0 ∧ (mhF s.data.toList).2 = (e, (x : Int))) ∨
    (allE s = none ∧ okLen (numAt s 36 2) = true ∧ 102 + 16 * cntAt s ≤ s.size ∧ mhF s.data.toList = (102 + 16 * cntAt s, 0, -1) ∧ rdMs s.data.toList = msAt s ∧ itV s.data.toList (mh11 s.data.toList) (rcN s.data.toList (mh3 s.data.toList)) = insAt s 102 (cntAt s)) := by
  unfold allE mhF
  rcases head_ways s with ⟨e, x, h1, h2, h3⟩ | ⟨h1, h2, h0, h3, h4, h5⟩
  · exact Or.inl ⟨e, x, by rw [h1]; rfl, h2, by rw [itS_bad _ _ (by rw [h3]; exact h2), h3]⟩
  · rw [h1, h3, h4]
    rcases it_ways s 102 h2 (cntAt s) with ⟨e, x, g1, g2, g3⟩ | ⟨g1, g2, g3, g4⟩
    · exact Or.inl ⟨e, x, by rw [g1]; rfl, g2, g3⟩
    · exact Or.inr ⟨by rw [g1]; rfl, h0, g2, g3, h5, g4⟩

end Go.Proofs.YtkfhcblgfndoaaaDoor
