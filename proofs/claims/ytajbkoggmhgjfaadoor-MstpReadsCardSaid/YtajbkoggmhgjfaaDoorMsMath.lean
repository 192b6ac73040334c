/- 12.2, 12.3: what is written is read; what is read is right: plain. What the code's reader makes of a message of many trees, beside what lies there: plain. mstp.expect, readCount, readInst at every state of a reader. Bodies that lie somewhere: what is wrong with them, and what may be: plain. 9.2, 9.3: what is written is read; what is read is right: plain. What the code's reader makes of a body, beside what the reference's cursor makes of it: plain. The reference's cursor.body, everywhere. (apart: numAt, numAt_one, bpAt) The reference's names of bridges and ports, at a cursor. (apart: beAt, beAt_lt, brAt) -/
import Derived.Test.YtajbkoggmhgjfaaDoorVecs
import Derived.Test.YtajbkoggmhgjfaaDoorCopyT
import Derived.Test.YtajbkoggmhgjfaaDoorNum
import Derived.Test.YtajbkoggmhgjfaaDoorBpPlain
import Derived.Test.YtajbkoggmhgjfaaDoorRBody
import Derived.Test.YtajbkoggmhgjfaaDoorBpFits
import Derived.Test.YtajbkoggmhgjfaaDoorBpOk
import Derived.Test.YtajbkoggmhgjfaaDoorErrA
import Derived.Test.YtajbkoggmhgjfaaDoorMs
import Derived.Lib.TrimByte
namespace Go.Proofs.YtajbkoggmhgjfaaDoor
open Go.RowKit
attribute [local go_sem ↓] Go.wp_at_zero Go.wp_at_succ
set_option linter.unusedSimpArgs false
set_option linter.unusedVariables false
set_option maxRecDepth 100000

def beAt (s : ByteArray) (p : Nat) : Nat := beN ((s.data.toList.drop p).take 2)
theorem beAt_lt (s : ByteArray) (p : Nat) : beAt s p < 65536 := by
  unfold beAt
  have h := beN_lt ((s.data.toList.drop p).take 2)
  have hl : ((s.data.toList.drop p).take 2).length ≤ 2 := List.length_take_le 2 _
  have h3 : 256 ^ ((s.data.toList.drop p).take 2).length ≤ 256 ^ 2 := Nat.pow_le_pow_right (by decide) hl
  omega
def brAt (s : ByteArray) (p : Nat) : Br := ⟨(beAt s p : Int) / 4096 * 4096, (beAt s p : Int) % 4096, byX ((s.data.toList.drop (p + 2)).take 6)⟩
def ptAt (s : ByteArray) (p : Nat) : Array Value := ptC ((beAt s p : Int) / 4096 * 16) ((beAt s p : Int) % 4096)


end Go.Proofs.YtajbkoggmhgjfaaDoor

namespace Go.Proofs.YtajbkoggmhgjfaaDoor
open Go.RowKit
attribute [local go_sem ↓] Go.wp_at_zero Go.wp_at_succ
set_option linter.unusedSimpArgs false
set_option linter.unusedVariables false
set_option maxRecDepth 100000

def numAt (s : ByteArray) (p n : Nat) : Nat := beN ((s.data.toList.drop p).take n)
theorem numAt_one (s : ByteArray) (p : Nat) : numAt s p 1 < 256 := by
  unfold numAt
  have h := beN_lt ((s.data.toList.drop p).take 1)
  have hl : ((s.data.toList.drop p).take 1).length ≤ 1 := List.length_take_le 1 _
  have h3 : 256 ^ ((s.data.toList.drop p).take 1).length ≤ 256 ^ 1 := Nat.pow_le_pow_right (by decide) hl
  omega
/-- What lies there. -/
def bpAt (s : ByteArray) (p : Nat) (k : Int) : Bp := ⟨k, (ofF (numAt s p 1)), (brAt s (p + 1)), (numAt s (p + 9) 4 : Int), (brAt s (p + 13)), ((beAt s (p + 21) : Int) / 4096 * 16), ((beAt s (p + 21) : Int) % 4096), (numAt s (p + 23) 2 : Int), (numAt s (p + 25) 2 : Int), (numAt s (p + 27) 2 : Int), (numAt s (p + 29) 2 : Int)⟩
/-- What is wrong first, and where: n bytes, from p on; z: the port's number is 0. -/
def bdE (n p : Nat) (z : Bool) : Option (Int × Nat) :=
  if n < p + 1 then some (7, p) else
   if n < p + 3 then some (7, p + 1) else
   if n < p + 9 then some (7, p + 3) else
   if n < p + 13 then some (7, p + 9) else
   if n < p + 15 then some (7, p + 13) else
   if n < p + 21 then some (7, p + 15) else
   if n < p + 23 then some (7, p + 21) else
   if z = true then some (2, p + 21) else
   if n < p + 25 then some (7, p + 23) else
   if n < p + 27 then some (7, p + 25) else
   if n < p + 29 then some (7, p + 27) else
   if n < p + 31 then some (7, p + 29) else
   none
def pzAt (s : ByteArray) (p : Nat) : Bool := beAt s p % 4096 == 0

theorem isNo {u : ByteArray} {l : List UInt8} (h : ¬ u.data.toList = l) : (u.toList == l) = false := by
  apply beq_eq_false_iff_ne.2
  rw [ByteArray.toList_eq]
  exact h
/-- The head. -/
def hdAt (s : ByteArray) : List UInt8 := (s.data.toList.drop 0).take 4
def tlAt (s : ByteArray) : List UInt8 := (s.data.toList.drop 35).take 1


end Go.Proofs.YtajbkoggmhgjfaaDoor

namespace Go.Proofs.YtajbkoggmhgjfaaDoor
open Go.RowKit
set_option linter.unusedVariables false
set_option linter.unusedSimpArgs false

theorem nm_go (l : List UInt8) (st : RSt) (n : Nat) (h1 : 1 ≤ n) (h8 : n ≤ 8) (h : st.2.1 = 0) (hn : st.1 + n ≤ l.length) : nmS l 0 st n = (st.1 + n, st.2) ∧ nmV l 0 st n = beN ((l.drop st.1).take n) := by
  have e := tkN_go l 0 st n true h hn (by intro _; omega)
  unfold nmS nmV
  rw [e]
  exact ⟨rfl, rfl⟩
theorem nm_miss (l : List UInt8) (st : RSt) (n : Nat) (h1 : 1 ≤ n) (h8 : n ≤ 8) (h : st.2.1 = 0) (hn : ¬ st.1 + n ≤ l.length) (hp : st.1 ≤ l.length) : nmS l 0 st n = (st.1, 7, (st.1 : Int)) := by
  have e := tkN_miss l 0 st n true h hn hp (by intro _; omega)
  unfold nmS
  rw [e]
  simp
theorem nm_bad (l : List UInt8) (st : RSt) (n : Int) (h : ¬ st.2.1 = 0) : nmS l 0 st n = st := by
  unfold nmS
  rw [tkN_bad l 0 st n true h]
theorem br_go (l : List UInt8) (st : RSt) (h : st.2.1 = 0) (hn : st.1 + 8 ≤ l.length) : rdBs l 0 st = (st.1 + 8, st.2) ∧ rdB l 0 st = ⟨(beN ((l.drop st.1).take 2) : Int) / 4096 * 4096, (beN ((l.drop st.1).take 2) : Int) % 4096, byX ((l.drop (st.1 + 2)).take 6)⟩ := by
  obtain ⟨a1, a2⟩ := nm_go l st 2 (by decide) (by decide) h (by omega)
  have a1' : rdS1 l 0 st = (st.1 + 2, st.2) := a1
  have a2' : rdN l 0 st = beN ((l.drop st.1).take 2) := a2
  have e := tkN_go l 0 (rdS1 l 0 st) 6 false (by rw [a1']; exact h) (by rw [a1']; show st.1 + 2 + 6 ≤ _; omega) (by simp)
  have e1 : rdBs l 0 st = (st.1 + 8, st.2) := by
    unfold rdBs
    rw [show ((6 : Int)) = ((6 : Nat) : Int) from rfl, e, a1']
  have e2 : rdA l 0 st = (l.drop (st.1 + 2)).take 6 := by
    unfold rdA
    rw [show ((6 : Int)) = ((6 : Nat) : Int) from rfl, e, a1']
  refine ⟨e1, ?_⟩
  unfold rdB
  rw [e1, if_pos h, e2, a2']
theorem br_miss1 (l : List UInt8) (st : RSt) (h : st.2.1 = 0) (hn : ¬ st.1 + 2 ≤ l.length) (hp : st.1 ≤ l.length) : rdBs l 0 st = (st.1, 7, (st.1 : Int)) := by
  have a1 : rdS1 l 0 st = (st.1, 7, (st.1 : Int)) := nm_miss l st 2 (by decide) (by decide) h hn hp
  unfold rdBs
  rw [a1, tkN_bad l 0 _ 6 false (by simp)]
theorem br_miss2 (l : List UInt8) (st : RSt) (h : st.2.1 = 0) (hn : st.1 + 2 ≤ l.length) (hn2 : ¬ st.1 + 8 ≤ l.length) : rdBs l 0 st = (st.1 + 2, 7, ((st.1 + 2 : Nat) : Int)) := by
  have a1 : rdS1 l 0 st = (st.1 + 2, st.2) := (nm_go l st 2 (by decide) (by decide) h hn).1
  have e := tkN_miss l 0 (rdS1 l 0 st) 6 false (by rw [a1]; exact h) (by rw [a1]; show ¬ st.1 + 2 + 6 ≤ _; omega) (by rw [a1]; exact hn) (by simp)
  unfold rdBs
  rw [show ((6 : Int)) = ((6 : Nat) : Int) from rfl, e, a1]
  simp
theorem br_bad (l : List UInt8) (st : RSt) (h : ¬ st.2.1 = 0) : rdBs l 0 st = st := by
  have e1 : rdS1 l 0 st = st := nm_bad l st 2 h
  unfold rdBs
  rw [e1, tkN_bad l 0 st 6 false h]
theorem rp_bad (l : List UInt8) (st : RSt) (h : ¬ st.2.1 = 0) : rpSt l 0 st = st := by
  have e1 : rdS1 l 0 st = st := nm_bad l st 2 h
  have e2 : rdN l 0 st = 0 := rdN_bad l 0 st (by rw [e1]; exact h)
  unfold rpSt
  rw [e1, e2, if_pos (by decide), flR_bad st 2 _ h]
theorem rp_miss (l : List UInt8) (st : RSt) (h : st.2.1 = 0) (hn : ¬ st.1 + 2 ≤ l.length) (hp : st.1 ≤ l.length) : rpSt l 0 st = (st.1, 7, (st.1 : Int)) := by
  have a1 : rdS1 l 0 st = (st.1, 7, (st.1 : Int)) := nm_miss l st 2 (by decide) (by decide) h hn hp
  have e2 : rdN l 0 st = 0 := rdN_bad l 0 st (by rw [a1]; simp)
  unfold rpSt
  rw [a1, e2, if_pos (by decide), flR_bad _ 2 _ (by simp)]
theorem rp_zero (l : List UInt8) (st : RSt) (h : st.2.1 = 0) (hn : st.1 + 2 ≤ l.length) (hz : beN ((l.drop st.1).take 2) % 4096 = 0) : (rpSt l 0 st).2 = (2, (st.1 : Int)) := by
  obtain ⟨a1, a2⟩ := nm_go l st 2 (by decide) (by decide) h hn
  have a1' : rdS1 l 0 st = (st.1 + 2, st.2) := a1
  have a2' : rdN l 0 st = beN ((l.drop st.1).take 2) := a2
  unfold rpSt
  rw [a2', if_pos hz, a1']
  unfold flR
  rw [if_neg (by simpa using h)]
  simp
theorem rp_go (l : List UInt8) (st : RSt) (h : st.2.1 = 0) (hn : st.1 + 2 ≤ l.length) (hz : ¬ beN ((l.drop st.1).take 2) % 4096 = 0) : rpSt l 0 st = (st.1 + 2, st.2) ∧ rpP l 0 st = (beN ((l.drop st.1).take 2) : Int) / 4096 * 16 ∧ rpN l 0 st = (beN ((l.drop st.1).take 2) : Int) % 4096 := by
  obtain ⟨a1, a2⟩ := nm_go l st 2 (by decide) (by decide) h hn
  have a1' : rdS1 l 0 st = (st.1 + 2, st.2) := a1
  have a2' : rdN l 0 st = beN ((l.drop st.1).take 2) := a2
  unfold rpSt rpP rpN
  rw [a2', if_neg hz, if_neg hz, if_neg hz, a1']
  exact ⟨rfl, rfl, rfl⟩

section
variable (l : List UInt8) (st : RSt)
theorem bad8 (h : ¬ (sb8 l 0 st).2.1 = 0) : sb9 l 0 st = sb8 l 0 st := nm_bad l _ 2 h
theorem bad7 (h : ¬ (sb7 l 0 st).2.1 = 0) : sb9 l 0 st = sb7 l 0 st := by
  have e : sb8 l 0 st = sb7 l 0 st := nm_bad l _ 2 h
  rw [bad8 l st (by rw [e]; exact h), e]
theorem bad6 (h : ¬ (sb6 l 0 st).2.1 = 0) : sb9 l 0 st = sb6 l 0 st := by
  have e : sb7 l 0 st = sb6 l 0 st := nm_bad l _ 2 h
  rw [bad7 l st (by rw [e]; exact h), e]
theorem bad5 (h : ¬ (sb5 l 0 st).2.1 = 0) : sb9 l 0 st = sb5 l 0 st := by
  have e : sb6 l 0 st = sb5 l 0 st := nm_bad l _ 2 h
  rw [bad6 l st (by rw [e]; exact h), e]
theorem bad4 (h : ¬ (sb4 l 0 st).2.1 = 0) : sb9 l 0 st = sb4 l 0 st := by
  have e : sb5 l 0 st = sb4 l 0 st := rp_bad l _ h
  rw [bad5 l st (by rw [e]; exact h), e]
theorem bad3 (h : ¬ (sb3 l 0 st).2.1 = 0) : sb9 l 0 st = sb3 l 0 st := by
  have e : sb4 l 0 st = sb3 l 0 st := br_bad l _ h
  rw [bad4 l st (by rw [e]; exact h), e]
theorem bad2 (h : ¬ (sb2 l 0 st).2.1 = 0) : sb9 l 0 st = sb2 l 0 st := by
  have e : sb3 l 0 st = sb2 l 0 st := nm_bad l _ 4 h
  rw [bad3 l st (by rw [e]; exact h), e]
theorem bad1 (h : ¬ (sb1 l 0 st).2.1 = 0) : sb9 l 0 st = sb1 l 0 st := by
  have e : sb2 l 0 st = sb1 l 0 st := br_bad l _ h
  rw [bad2 l st (by rw [e]; exact h), e]
end

/-- Both are one. -/
theorem sb_ways (s : ByteArray) (p : Nat) (hp : p ≤ s.size) (k : Int) :
    (∃ e x, bdE s.size p (pzAt s (p + 21)) = some (e, x) ∧ e ≠ 0 ∧ (sb9 s.data.toList 0 (p, 0, -1)).2 = (e, (x : Int))) ∨
    (bdE s.size p (pzAt s (p + 21)) = none ∧ sb9 s.data.toList 0 (p, 0, -1) = (p + 31, 0, -1) ∧ rbRaw s.data.toList 0 (p, 0, -1) k = bpAt s p k) := by
  have hl : s.data.toList.length = s.size := by simp
  generalize hL : s.data.toList = l at *
  have hbe : ∀ q, beAt s q = beN ((l.drop q).take 2) := fun q => by unfold beAt; rw [hL]
  have hnu : ∀ q n, numAt s q n = beN ((l.drop q).take n) := fun q n => by unfold numAt; rw [hL]
  by_cases q0 : s.size < p + 1
  · refine Or.inl ⟨7, p, by unfold bdE; simp only [if_pos q0], by decide, ?_⟩
    have e : sb1 l 0 (p, 0, -1) = (p, 7, ((p : Nat) : Int)) := by
      have e := nm_miss l (p, 0, -1) 1 (by decide) (by decide) rfl (by show ¬ p + 1 ≤ l.length; omega) (by show p ≤ l.length; omega)
      exact e
    rw [bad1 l _ (by rw [e]; simp), e]
    try rfl
  obtain ⟨e1, v1⟩ := nm_go l (p, 0, -1) 1 (by decide) (by decide) rfl (by show p + 1 ≤ l.length; omega)
  replace e1 : sb1 l 0 (p, 0, -1) = (p + 1, 0, -1) := e1
  by_cases q1 : s.size < p + 3
  · refine Or.inl ⟨7, p + 1, by unfold bdE; simp only [if_neg q0, if_pos q1], by decide, ?_⟩
    have e : sb2 l 0 (p, 0, -1) = (p + 1, 7, ((p + 1 : Nat) : Int)) := by
      have e := br_miss1 l (sb1 l 0 (p, 0, -1)) (by rw [e1]) (by rw [e1]; show ¬ p + 1 + 2 ≤ l.length; omega) (by rw [e1]; show p + 1 ≤ l.length; omega)
      rw [e1] at e
      unfold sb2; rw [e1]; exact e
    rw [bad2 l _ (by rw [e]; simp), e]
    try rfl
  by_cases q3 : s.size < p + 9
  · refine Or.inl ⟨7, p + 3, by unfold bdE; simp only [if_neg q0, if_neg q1, if_pos q3], by decide, ?_⟩
    have e : sb2 l 0 (p, 0, -1) = (p + 3, 7, ((p + 3 : Nat) : Int)) := by
      have e := br_miss2 l (sb1 l 0 (p, 0, -1)) (by rw [e1]) (by rw [e1]; show p + 1 + 2 ≤ l.length; omega) (by rw [e1]; show ¬ p + 1 + 8 ≤ l.length; omega)
      rw [e1] at e
      unfold sb2; rw [e1]; exact e
    rw [bad2 l _ (by rw [e]; simp), e]
    try rfl
  obtain ⟨e2, v2⟩ := br_go l (sb1 l 0 (p, 0, -1)) (by rw [e1]) (by rw [e1]; show p + 1 + 8 ≤ l.length; omega)
  rw [e1] at e2 v2
  replace e2 : sb2 l 0 (p, 0, -1) = (p + 9, 0, -1) := by unfold sb2; rw [e1]; exact e2
  by_cases q9 : s.size < p + 13
  · refine Or.inl ⟨7, p + 9, by unfold bdE; simp only [if_neg q0, if_neg q1, if_neg q3, if_pos q9], by decide, ?_⟩
    have e : sb3 l 0 (p, 0, -1) = (p + 9, 7, ((p + 9 : Nat) : Int)) := by
      have e := nm_miss l (sb2 l 0 (p, 0, -1)) 4 (by decide) (by decide) (by rw [e2]) (by rw [e2]; show ¬ p + 9 + 4 ≤ l.length; omega) (by rw [e2]; show p + 9 ≤ l.length; omega)
      rw [e2] at e
      unfold sb3; rw [e2]; exact e
    rw [bad3 l _ (by rw [e]; simp), e]
    try rfl
  obtain ⟨e3, v3⟩ := nm_go l (sb2 l 0 (p, 0, -1)) 4 (by decide) (by decide) (by rw [e2]) (by rw [e2]; show p + 9 + 4 ≤ l.length; omega)
  rw [e2] at e3 v3
  replace e3 : sb3 l 0 (p, 0, -1) = (p + 13, 0, -1) := by unfold sb3; rw [e2]; exact e3
  by_cases q13 : s.size < p + 15
  · refine Or.inl ⟨7, p + 13, by unfold bdE; simp only [if_neg q0, if_neg q1, if_neg q3, if_neg q9, if_pos q13], by decide, ?_⟩
    have e : sb4 l 0 (p, 0, -1) = (p + 13, 7, ((p + 13 : Nat) : Int)) := by
      have e := br_miss1 l (sb3 l 0 (p, 0, -1)) (by rw [e3]) (by rw [e3]; show ¬ p + 13 + 2 ≤ l.length; omega) (by rw [e3]; show p + 13 ≤ l.length; omega)
      rw [e3] at e
      unfold sb4; rw [e3]; exact e
    rw [bad4 l _ (by rw [e]; simp), e]
    try rfl
  by_cases q15 : s.size < p + 21
  · refine Or.inl ⟨7, p + 15, by unfold bdE; simp only [if_neg q0, if_neg q1, if_neg q3, if_neg q9, if_neg q13, if_pos q15], by decide, ?_⟩
    have e : sb4 l 0 (p, 0, -1) = (p + 15, 7, ((p + 15 : Nat) : Int)) := by
      have e := br_miss2 l (sb3 l 0 (p, 0, -1)) (by rw [e3]) (by rw [e3]; show p + 13 + 2 ≤ l.length; omega) (by rw [e3]; show ¬ p + 13 + 8 ≤ l.length; omega)
      rw [e3] at e
      unfold sb4; rw [e3]; exact e
    rw [bad4 l _ (by rw [e]; simp), e]
    try rfl
  obtain ⟨e4, v4⟩ := br_go l (sb3 l 0 (p, 0, -1)) (by rw [e3]) (by rw [e3]; show p + 13 + 8 ≤ l.length; omega)
  rw [e3] at e4 v4
  replace e4 : sb4 l 0 (p, 0, -1) = (p + 21, 0, -1) := by unfold sb4; rw [e3]; exact e4
  by_cases q21 : s.size < p + 23
  · refine Or.inl ⟨7, p + 21, by unfold bdE; simp only [if_neg q0, if_neg q1, if_neg q3, if_neg q9, if_neg q13, if_neg q15, if_pos q21], by decide, ?_⟩
    have e : sb5 l 0 (p, 0, -1) = (p + 21, 7, ((p + 21 : Nat) : Int)) := by
      have e := rp_miss l (sb4 l 0 (p, 0, -1)) (by rw [e4]) (by rw [e4]; show ¬ p + 21 + 2 ≤ l.length; omega) (by rw [e4]; show p + 21 ≤ l.length; omega)
      rw [e4] at e
      unfold sb5; rw [e4]; exact e
    rw [bad5 l _ (by rw [e]; simp), e]
    try rfl
  by_cases qz : pzAt s (p + 21) = true
  · refine Or.inl ⟨2, p + 21, by unfold bdE; simp only [if_neg q0, if_neg q1, if_neg q3, if_neg q9, if_neg q13, if_neg q15, if_neg q21, if_pos qz], by decide, ?_⟩
    have hz : beN ((l.drop (p + 21)).take 2) % 4096 = 0 := by unfold pzAt at qz; rw [beq_iff_eq, hbe] at qz; exact qz
    have e := rp_zero l (sb4 l 0 (p, 0, -1)) (by rw [e4]) (by rw [e4]; show p + 21 + 2 ≤ l.length; omega) (by rw [e4]; exact hz)
    rw [e4] at e
    have e5 : (sb5 l 0 (p, 0, -1)).2 = (2, ((p + 21 : Nat) : Int)) := by unfold sb5; rw [e4]; exact e
    rw [bad5 l _ (by rw [e5]; simp), e5]
  have hz : ¬ beN ((l.drop (p + 21)).take 2) % 4096 = 0 := by unfold pzAt at qz; rw [beq_iff_eq, hbe] at qz; exact qz
  obtain ⟨e5, v5, u5⟩ := rp_go l (sb4 l 0 (p, 0, -1)) (by rw [e4]) (by rw [e4]; show p + 21 + 2 ≤ l.length; omega) (by rw [e4]; exact hz)
  rw [e4] at e5 v5 u5
  replace e5 : sb5 l 0 (p, 0, -1) = (p + 23, 0, -1) := by unfold sb5; rw [e4]; exact e5
  by_cases q23 : s.size < p + 25
  · refine Or.inl ⟨7, p + 23, by unfold bdE; simp only [if_neg q0, if_neg q1, if_neg q3, if_neg q9, if_neg q13, if_neg q15, if_neg q21, if_neg qz, if_pos q23], by decide, ?_⟩
    have e : sb6 l 0 (p, 0, -1) = (p + 23, 7, ((p + 23 : Nat) : Int)) := by
      have e := nm_miss l (sb5 l 0 (p, 0, -1)) 2 (by decide) (by decide) (by rw [e5]) (by rw [e5]; show ¬ p + 23 + 2 ≤ l.length; omega) (by rw [e5]; show p + 23 ≤ l.length; omega)
      rw [e5] at e
      unfold sb6; rw [e5]; exact e
    rw [bad6 l _ (by rw [e]; simp), e]
    try rfl
  obtain ⟨e6, v6⟩ := nm_go l (sb5 l 0 (p, 0, -1)) 2 (by decide) (by decide) (by rw [e5]) (by rw [e5]; show p + 23 + 2 ≤ l.length; omega)
  rw [e5] at e6 v6
  replace e6 : sb6 l 0 (p, 0, -1) = (p + 25, 0, -1) := by unfold sb6; rw [e5]; exact e6
  by_cases q25 : s.size < p + 27
  · refine Or.inl ⟨7, p + 25, by unfold bdE; simp only [if_neg q0, if_neg q1, if_neg q3, if_neg q9, if_neg q13, if_neg q15, if_neg q21, if_neg qz, if_neg q23, if_pos q25], by decide, ?_⟩
    have e : sb7 l 0 (p, 0, -1) = (p + 25, 7, ((p + 25 : Nat) : Int)) := by
      have e := nm_miss l (sb6 l 0 (p, 0, -1)) 2 (by decide) (by decide) (by rw [e6]) (by rw [e6]; show ¬ p + 25 + 2 ≤ l.length; omega) (by rw [e6]; show p + 25 ≤ l.length; omega)
      rw [e6] at e
      unfold sb7; rw [e6]; exact e
    rw [bad7 l _ (by rw [e]; simp), e]
    try rfl
  obtain ⟨e7, v7⟩ := nm_go l (sb6 l 0 (p, 0, -1)) 2 (by decide) (by decide) (by rw [e6]) (by rw [e6]; show p + 25 + 2 ≤ l.length; omega)
  rw [e6] at e7 v7
  replace e7 : sb7 l 0 (p, 0, -1) = (p + 27, 0, -1) := by unfold sb7; rw [e6]; exact e7
  by_cases q27 : s.size < p + 29
  · refine Or.inl ⟨7, p + 27, by unfold bdE; simp only [if_neg q0, if_neg q1, if_neg q3, if_neg q9, if_neg q13, if_neg q15, if_neg q21, if_neg qz, if_neg q23, if_neg q25, if_pos q27], by decide, ?_⟩
    have e : sb8 l 0 (p, 0, -1) = (p + 27, 7, ((p + 27 : Nat) : Int)) := by
      have e := nm_miss l (sb7 l 0 (p, 0, -1)) 2 (by decide) (by decide) (by rw [e7]) (by rw [e7]; show ¬ p + 27 + 2 ≤ l.length; omega) (by rw [e7]; show p + 27 ≤ l.length; omega)
      rw [e7] at e
      unfold sb8; rw [e7]; exact e
    rw [bad8 l _ (by rw [e]; simp), e]
    try rfl
  obtain ⟨e8, v8⟩ := nm_go l (sb7 l 0 (p, 0, -1)) 2 (by decide) (by decide) (by rw [e7]) (by rw [e7]; show p + 27 + 2 ≤ l.length; omega)
  rw [e7] at e8 v8
  replace e8 : sb8 l 0 (p, 0, -1) = (p + 29, 0, -1) := by unfold sb8; rw [e7]; exact e8
  by_cases q29 : s.size < p + 31
  · refine Or.inl ⟨7, p + 29, by unfold bdE; simp only [if_neg q0, if_neg q1, if_neg q3, if_neg q9, if_neg q13, if_neg q15, if_neg q21, if_neg qz, if_neg q23, if_neg q25, if_neg q27, if_pos q29], by decide, ?_⟩
    have e : sb9 l 0 (p, 0, -1) = (p + 29, 7, ((p + 29 : Nat) : Int)) := by
      have e := nm_miss l (sb8 l 0 (p, 0, -1)) 2 (by decide) (by decide) (by rw [e8]) (by rw [e8]; show ¬ p + 29 + 2 ≤ l.length; omega) (by rw [e8]; show p + 29 ≤ l.length; omega)
      rw [e8] at e
      unfold sb9; rw [e8]; exact e
    rw [e]
    try rfl
  obtain ⟨e9, v9⟩ := nm_go l (sb8 l 0 (p, 0, -1)) 2 (by decide) (by decide) (by rw [e8]) (by rw [e8]; show p + 29 + 2 ≤ l.length; omega)
  rw [e8] at e9 v9
  replace e9 : sb9 l 0 (p, 0, -1) = (p + 31, 0, -1) := by unfold sb9; rw [e8]; exact e9
  refine Or.inr ⟨by unfold bdE; simp only [if_neg q0, if_neg q1, if_neg q3, if_neg q9, if_neg q13, if_neg q15, if_neg q21, if_neg qz, if_neg q23, if_neg q25, if_neg q27, if_neg q29], e9, ?_⟩
  unfold rbRaw bpAt
  rw [e1, e2, e3, e4, e5, e6, e7, e8]
  have w1 : nmV l 0 (p, 0, -1) 1 = numAt s p 1 := by rw [hnu]; exact v1
  have w2 : rdB l 0 (p + 1, 0, -1) = brAt s (p + 1) := by unfold brAt; rw [hbe, hL]; exact v2
  have w3 : nmV l 0 (p + 9, 0, -1) 4 = numAt s (p + 9) 4 := by rw [hnu]; exact v3
  have w4 : rdB l 0 (p + 13, 0, -1) = brAt s (p + 13) := by unfold brAt; rw [hbe, hL]; exact v4
  have w6 : nmV l 0 (p + 23, 0, -1) 2 = numAt s (p + 23) 2 := by rw [hnu]; exact v6
  have w7 : nmV l 0 (p + 25, 0, -1) 2 = numAt s (p + 25) 2 := by rw [hnu]; exact v7
  have w8 : nmV l 0 (p + 27, 0, -1) 2 = numAt s (p + 27) 2 := by rw [hnu]; exact v8
  have w9 : nmV l 0 (p + 29, 0, -1) 2 = numAt s (p + 29) 2 := by rw [hnu]; exact v9
  rw [w1, w2, w3, w4, v5, u5, w6, w7, w8, w9, hbe]

end Go.Proofs.YtajbkoggmhgjfaaDoor

namespace Go.Proofs.YtajbkoggmhgjfaaDoor
set_option linter.unusedVariables false
set_option linter.unusedSimpArgs false

theorem seg {l A X C : List UInt8} {n k : Nat} (h : l = A ++ (X ++ C)) (hA : A.length = n) (hX : X.length = k) : (l.drop n).take k = X := by
  subst hA hX
  rw [h, List.drop_left, List.take_left]
theorem byX_of (l : List UInt8) (x : Nat → Nat) (hx : ∀ i, x i < 256) (h : l = nb 6 x) (i : Nat) (hi : i < 6) : byX l i = x i := by
  subst h
  have : i = 0 ∨ i = 1 ∨ i = 2 ∨ i = 3 ∨ i = 4 ∨ i = 5 := by omega
  rcases this with rfl | rfl | rfl | rfl | rfl | rfl <;> (unfold byX; show (UInt8.ofNat (x _)).toNat = _; rw [UInt8.toNat_ofNat']; exact Nat.mod_eq_of_lt (hx _))
theorem nat_i (v : Int) (n : Nat) (h : fitI n v = true) : ((beN (putL v.toNat n) : Nat) : Int) = v := by
  obtain ⟨h0, h1⟩ := fitI_all h
  have e : ((256 ^ n : Nat) : Int) = 256 ^ n := by simp
  rw [beN_putL_fits _ _ (by omega)]
  omega

/-- The cells of a BPDU hang on its numbers alone. -/
theorem bpC_congr (a b : Bp) (h0 : a.k = b.k) (h1 : a.f = b.f) (h2 : brC a.root = brC b.root) (h3 : a.cost = b.cost) (h4 : brC a.snd = brC b.snd) (h5 : a.pp = b.pp) (h6 : a.pn = b.pn) (h7 : a.age = b.age) (h8 : a.mx = b.mx) (h9 : a.hel = b.hel) (h10 : a.wai = b.wai) : bpC a = bpC b := by
  have q2 : ∀ i, i < 8 → (brC a.root)[i]? = (brC b.root)[i]? := fun i _ => by rw [h2]
  have q4 : ∀ i, i < 8 → (brC a.snd)[i]? = (brC b.snd)[i]? := fun i _ => by rw [h4]
  obtain ⟨k, f, ⟨rp, re, ra⟩, c, ⟨sp, se, sa⟩, pp, pn, t1, t2, t3, t4⟩ := a
  obtain ⟨k', f', ⟨rp', re', ra'⟩, c', ⟨sp', se', sa'⟩, pp', pn', t1', t2', t3', t4'⟩ := b
  simp only at h0 h1 h3 h5 h6 h7 h8 h9 h10
  subst h0 h1 h3 h5 h6 h7 h8 h9 h10
  simp only [brC, Array.mk.injEq, List.cons.injEq, and_true] at h2 h4
  obtain ⟨a0, a1, a2, a3, a4, a5, a6, a7⟩ := h2
  obtain ⟨b0, b1, b2, b3, b4, b5, b6, b7⟩ := h4
  simp only [bpC]
  rw [a0, a1, a2, a3, a4, a5, a6, a7, b0, b1, b2, b3, b4, b5, b6, b7]

theorem br_back (b : Br) (hb : byB b) (hok : okB b = true) (X : Br) (n : Nat) (l : List UInt8) (hX : X = ⟨(n : Int) / 4096 * 4096, (n : Int) % 4096, byX l⟩) (hn : (n : Int) = b.p + b.e) (hl : l = nb 6 b.a) : brC X = brC b := by
  obtain ⟨p0, p1, pm, e0, e1⟩ := okB_all hok
  have q := byX_of l b.a hb hl
  have hp : (n : Int) / 4096 * 4096 = b.p := by omega
  have he : (n : Int) % 4096 = b.e := by omega
  subst hX
  unfold brC
  rw [hp, he]
  simp only [q 0 (by decide), q 1 (by decide), q 2 (by decide), q 3 (by decide), q 4 (by decide), q 5 (by decide)]

/-- The body, field by field, where it stands. -/
structure InL (b : Bp) (l : List UInt8) (p : Nat) : Prop where
  f0 : (l.drop p).take 1 = putL (byF b.f) 1
  f1 : (l.drop (p + 1)).take 2 = putL (b.root.p + b.root.e).toNat 2
  f2 : (l.drop (p + 3)).take 6 = nb 6 b.root.a
  f3 : (l.drop (p + 9)).take 4 = putL b.cost.toNat 4
  f4 : (l.drop (p + 13)).take 2 = putL (b.snd.p + b.snd.e).toNat 2
  f5 : (l.drop (p + 15)).take 6 = nb 6 b.snd.a
  f6 : (l.drop (p + 21)).take 2 = putL (256 * b.pp + b.pn).toNat 2
  f7 : (l.drop (p + 23)).take 2 = putL b.age.toNat 2
  f8 : (l.drop (p + 25)).take 2 = putL b.mx.toNat 2
  f9 : (l.drop (p + 27)).take 2 = putL b.hel.toNat 2
  f10 : (l.drop (p + 29)).take 2 = putL b.wai.toNat 2

theorem packL_two (b : Br) : packL b = putL (b.p + b.e).toNat 2 ++ nb 6 b.a := rfl
theorem nb6_len (x : Nat → Nat) : (nb 6 x).length = 6 := nb_len 6 x

theorem inL_of {b : Bp} {l H C : List UInt8} (h : l = H ++ (bodyL b ++ C)) (hH : H.length = 4) : InL b l 4 := by
  unfold bodyL tmL pprL at h
  rw [packL_two, packL_two] at h
  constructor
  · exact seg (A := H) (X := putL (byF b.f) 1) (C := putL (b.root.p + b.root.e).toNat 2 ++ nb 6 b.root.a ++ putL b.cost.toNat 4 ++ putL (b.snd.p + b.snd.e).toNat 2 ++ nb 6 b.snd.a ++ putL (256 * b.pp + b.pn).toNat 2 ++ putL b.age.toNat 2 ++ putL b.mx.toNat 2 ++ putL b.hel.toNat 2 ++ putL b.wai.toNat 2 ++ C) (by rw [h]; simp only [List.append_assoc]) (by simp only [List.length_append, putL_length, nb6_len, hH]) (by first | exact putL_length _ _ | exact nb6_len _)
  · exact seg (A := H ++ putL (byF b.f) 1) (X := putL (b.root.p + b.root.e).toNat 2) (C := nb 6 b.root.a ++ putL b.cost.toNat 4 ++ putL (b.snd.p + b.snd.e).toNat 2 ++ nb 6 b.snd.a ++ putL (256 * b.pp + b.pn).toNat 2 ++ putL b.age.toNat 2 ++ putL b.mx.toNat 2 ++ putL b.hel.toNat 2 ++ putL b.wai.toNat 2 ++ C) (by rw [h]; simp only [List.append_assoc]) (by simp only [List.length_append, putL_length, nb6_len, hH]) (by first | exact putL_length _ _ | exact nb6_len _)
  · exact seg (A := H ++ putL (byF b.f) 1 ++ putL (b.root.p + b.root.e).toNat 2) (X := nb 6 b.root.a) (C := putL b.cost.toNat 4 ++ putL (b.snd.p + b.snd.e).toNat 2 ++ nb 6 b.snd.a ++ putL (256 * b.pp + b.pn).toNat 2 ++ putL b.age.toNat 2 ++ putL b.mx.toNat 2 ++ putL b.hel.toNat 2 ++ putL b.wai.toNat 2 ++ C) (by rw [h]; simp only [List.append_assoc]) (by simp only [List.length_append, putL_length, nb6_len, hH]) (by first | exact putL_length _ _ | exact nb6_len _)
  · exact seg (A := H ++ putL (byF b.f) 1 ++ putL (b.root.p + b.root.e).toNat 2 ++ nb 6 b.root.a) (X := putL b.cost.toNat 4) (C := putL (b.snd.p + b.snd.e).toNat 2 ++ nb 6 b.snd.a ++ putL (256 * b.pp + b.pn).toNat 2 ++ putL b.age.toNat 2 ++ putL b.mx.toNat 2 ++ putL b.hel.toNat 2 ++ putL b.wai.toNat 2 ++ C) (by rw [h]; simp only [List.append_assoc]) (by simp only [List.length_append, putL_length, nb6_len, hH]) (by first | exact putL_length _ _ | exact nb6_len _)
  · exact seg (A := H ++ putL (byF b.f) 1 ++ putL (b.root.p + b.root.e).toNat 2 ++ nb 6 b.root.a ++ putL b.cost.toNat 4) (X := putL (b.snd.p + b.snd.e).toNat 2) (C := nb 6 b.snd.a ++ putL (256 * b.pp + b.pn).toNat 2 ++ putL b.age.toNat 2 ++ putL b.mx.toNat 2 ++ putL b.hel.toNat 2 ++ putL b.wai.toNat 2 ++ C) (by rw [h]; simp only [List.append_assoc]) (by simp only [List.length_append, putL_length, nb6_len, hH]) (by first | exact putL_length _ _ | exact nb6_len _)
  · exact seg (A := H ++ putL (byF b.f) 1 ++ putL (b.root.p + b.root.e).toNat 2 ++ nb 6 b.root.a ++ putL b.cost.toNat 4 ++ putL (b.snd.p + b.snd.e).toNat 2) (X := nb 6 b.snd.a) (C := putL (256 * b.pp + b.pn).toNat 2 ++ putL b.age.toNat 2 ++ putL b.mx.toNat 2 ++ putL b.hel.toNat 2 ++ putL b.wai.toNat 2 ++ C) (by rw [h]; simp only [List.append_assoc]) (by simp only [List.length_append, putL_length, nb6_len, hH]) (by first | exact putL_length _ _ | exact nb6_len _)
  · exact seg (A := H ++ putL (byF b.f) 1 ++ putL (b.root.p + b.root.e).toNat 2 ++ nb 6 b.root.a ++ putL b.cost.toNat 4 ++ putL (b.snd.p + b.snd.e).toNat 2 ++ nb 6 b.snd.a) (X := putL (256 * b.pp + b.pn).toNat 2) (C := putL b.age.toNat 2 ++ putL b.mx.toNat 2 ++ putL b.hel.toNat 2 ++ putL b.wai.toNat 2 ++ C) (by rw [h]; simp only [List.append_assoc]) (by simp only [List.length_append, putL_length, nb6_len, hH]) (by first | exact putL_length _ _ | exact nb6_len _)
  · exact seg (A := H ++ putL (byF b.f) 1 ++ putL (b.root.p + b.root.e).toNat 2 ++ nb 6 b.root.a ++ putL b.cost.toNat 4 ++ putL (b.snd.p + b.snd.e).toNat 2 ++ nb 6 b.snd.a ++ putL (256 * b.pp + b.pn).toNat 2) (X := putL b.age.toNat 2) (C := putL b.mx.toNat 2 ++ putL b.hel.toNat 2 ++ putL b.wai.toNat 2 ++ C) (by rw [h]; simp only [List.append_assoc]) (by simp only [List.length_append, putL_length, nb6_len, hH]) (by first | exact putL_length _ _ | exact nb6_len _)
  · exact seg (A := H ++ putL (byF b.f) 1 ++ putL (b.root.p + b.root.e).toNat 2 ++ nb 6 b.root.a ++ putL b.cost.toNat 4 ++ putL (b.snd.p + b.snd.e).toNat 2 ++ nb 6 b.snd.a ++ putL (256 * b.pp + b.pn).toNat 2 ++ putL b.age.toNat 2) (X := putL b.mx.toNat 2) (C := putL b.hel.toNat 2 ++ putL b.wai.toNat 2 ++ C) (by rw [h]; simp only [List.append_assoc]) (by simp only [List.length_append, putL_length, nb6_len, hH]) (by first | exact putL_length _ _ | exact nb6_len _)
  · exact seg (A := H ++ putL (byF b.f) 1 ++ putL (b.root.p + b.root.e).toNat 2 ++ nb 6 b.root.a ++ putL b.cost.toNat 4 ++ putL (b.snd.p + b.snd.e).toNat 2 ++ nb 6 b.snd.a ++ putL (256 * b.pp + b.pn).toNat 2 ++ putL b.age.toNat 2 ++ putL b.mx.toNat 2) (X := putL b.hel.toNat 2) (C := putL b.wai.toNat 2 ++ C) (by rw [h]; simp only [List.append_assoc]) (by simp only [List.length_append, putL_length, nb6_len, hH]) (by first | exact putL_length _ _ | exact nb6_len _)
  · exact seg (A := H ++ putL (byF b.f) 1 ++ putL (b.root.p + b.root.e).toNat 2 ++ nb 6 b.root.a ++ putL b.cost.toNat 4 ++ putL (b.snd.p + b.snd.e).toNat 2 ++ nb 6 b.snd.a ++ putL (256 * b.pp + b.pn).toNat 2 ++ putL b.age.toNat 2 ++ putL b.mx.toNat 2 ++ putL b.hel.toNat 2) (X := putL b.wai.toNat 2) (C := C) (by rw [h]; simp only [List.append_assoc]) (by simp only [List.length_append, putL_length, nb6_len, hH]) (by first | exact putL_length _ _ | exact nb6_len _)

theorem inL_back {b : Bp} {s : ByteArray} (h : InL b s.data.toList 4) (hx : byBp b) (hf : okF b.f = true) (hb : okBd b = true) (k : Int) (hk : b.k = k) : bpC (bpAt s 4 k) = bpC b ∧ pzAt s (4 + 21) = false := by
  obtain ⟨hroot, hsnd, hport, hcost, hage, hmx, hhel, hwai⟩ := okBd_all hb
  obtain ⟨f0, f1, f2, f3, f4, f5, f6, f7, f8, f9, f10⟩ := h
  obtain ⟨p0, p1, pm, e0, e1⟩ := okB_all hroot
  obtain ⟨s0, s1, sm, t0, t1⟩ := okB_all hsnd
  obtain ⟨u0, u1, um, v0, v1⟩ := okPt_all hport
  have hz : (beAt s (4 + 21) : Int) = 256 * b.pp + b.pn := by
    unfold beAt
    rw [f6, beN_putL_fits _ _ (by omega)]
    omega
  refine ⟨bpC_congr _ _ hk.symm ?_ ?_ ?_ ?_ ?_ ?_ ?_ ?_ ?_ ?_, ?_⟩
  · show ofF (numAt s 4 1) = b.f
    unfold numAt
    rw [f0, beN_putL_fits _ _ (by have := byF_lt b.f hf; simpa using this), ofF_by b.f hf]
  · exact br_back b.root hx.1 hroot (brAt s (4 + 1)) (beAt s (4 + 1)) ((s.data.toList.drop (4 + 3)).take 6) rfl (by unfold beAt; rw [f1, beN_putL_fits _ _ (by omega)]; omega) f2
  · show ((numAt s (4 + 9) 4 : Nat) : Int) = b.cost
    unfold numAt
    rw [f3, nat_i _ _ hcost]
  · exact br_back b.snd hx.2 hsnd (brAt s (4 + 13)) (beAt s (4 + 13)) ((s.data.toList.drop (4 + 15)).take 6) rfl (by unfold beAt; rw [f4, beN_putL_fits _ _ (by omega)]; omega) f5
  · show (beAt s (4 + 21) : Int) / 4096 * 16 = b.pp
    rw [hz]
    omega
  · show (beAt s (4 + 21) : Int) % 4096 = b.pn
    rw [hz]
    omega
  · show ((numAt s (4 + 23) 2 : Nat) : Int) = b.age
    unfold numAt
    rw [f7, nat_i _ _ hage]
  · show ((numAt s (4 + 25) 2 : Nat) : Int) = b.mx
    unfold numAt
    rw [f8, nat_i _ _ hmx]
  · show ((numAt s (4 + 27) 2 : Nat) : Int) = b.hel
    unfold numAt
    rw [f9, nat_i _ _ hhel]
  · show ((numAt s (4 + 29) 2 : Nat) : Int) = b.wai
    unfold numAt
    rw [f10, nat_i _ _ hwai]
  · unfold pzAt
    rw [beq_eq_false_iff_ne]
    omega

end Go.Proofs.YtajbkoggmhgjfaaDoor

namespace Go.Proofs.YtajbkoggmhgjfaaDoor
open Go.RowKit
set_option linter.unusedVariables false
set_option linter.unusedSimpArgs false

theorem bdE_none (n : Nat) (h : 35 ≤ n) : bdE n 4 false = none := by
  unfold bdE
  rw [if_neg (by omega), if_neg (by omega), if_neg (by omega), if_neg (by omega), if_neg (by omega), if_neg (by omega), if_neg (by omega), if_neg (by simp), if_neg (by omega), if_neg (by omega), if_neg (by omega), if_neg (by omega)]
theorem some_ne7 {a : Int} {b : Nat} {e : Int} {x : Nat} (ha : a ≠ 0) (h : some (a, b) = some (e, x)) : e ≠ 0 := by
  cases h
  exact ha
theorem bdE_not0 {n p : Nat} {z : Bool} {e : Int} {x : Nat} (h : bdE n p z = some (e, x)) : e ≠ 0 := by
  unfold bdE at h
  by_cases q0 : n < p + 1
  · rw [if_pos q0] at h
    exact some_ne7 (by decide) h
  rw [if_neg q0] at h
  by_cases q1 : n < p + 3
  · rw [if_pos q1] at h
    exact some_ne7 (by decide) h
  rw [if_neg q1] at h
  by_cases q2 : n < p + 9
  · rw [if_pos q2] at h
    exact some_ne7 (by decide) h
  rw [if_neg q2] at h
  by_cases q3 : n < p + 13
  · rw [if_pos q3] at h
    exact some_ne7 (by decide) h
  rw [if_neg q3] at h
  by_cases q4 : n < p + 15
  · rw [if_pos q4] at h
    exact some_ne7 (by decide) h
  rw [if_neg q4] at h
  by_cases q5 : n < p + 21
  · rw [if_pos q5] at h
    exact some_ne7 (by decide) h
  rw [if_neg q5] at h
  by_cases q6 : n < p + 23
  · rw [if_pos q6] at h
    exact some_ne7 (by decide) h
  rw [if_neg q6] at h
  by_cases q7 : z = true
  · rw [if_pos q7] at h
    exact some_ne7 (by decide) h
  rw [if_neg q7] at h
  by_cases q8 : n < p + 25
  · rw [if_pos q8] at h
    exact some_ne7 (by decide) h
  rw [if_neg q8] at h
  by_cases q9 : n < p + 27
  · rw [if_pos q9] at h
    exact some_ne7 (by decide) h
  rw [if_neg q9] at h
  by_cases q10 : n < p + 29
  · rw [if_pos q10] at h
    exact some_ne7 (by decide) h
  rw [if_neg q10] at h
  by_cases q11 : n < p + 31
  · rw [if_pos q11] at h
    exact some_ne7 (by decide) h
  rw [if_neg q11] at h
  cases h
theorem bdE_full {n p : Nat} {z : Bool} (h : bdE n p z = none) : p + 31 ≤ n ∧ z = false := by
  unfold bdE at h
  by_cases q0 : n < p + 1
  · rw [if_pos q0] at h
    cases h
  rw [if_neg q0] at h
  by_cases q1 : n < p + 3
  · rw [if_pos q1] at h
    cases h
  rw [if_neg q1] at h
  by_cases q2 : n < p + 9
  · rw [if_pos q2] at h
    cases h
  rw [if_neg q2] at h
  by_cases q3 : n < p + 13
  · rw [if_pos q3] at h
    cases h
  rw [if_neg q3] at h
  by_cases q4 : n < p + 15
  · rw [if_pos q4] at h
    cases h
  rw [if_neg q4] at h
  by_cases q5 : n < p + 21
  · rw [if_pos q5] at h
    cases h
  rw [if_neg q5] at h
  by_cases q6 : n < p + 23
  · rw [if_pos q6] at h
    cases h
  rw [if_neg q6] at h
  by_cases q7 : z = true
  · rw [if_pos q7] at h
    cases h
  rw [if_neg q7] at h
  by_cases q8 : n < p + 25
  · rw [if_pos q8] at h
    cases h
  rw [if_neg q8] at h
  by_cases q9 : n < p + 27
  · rw [if_pos q9] at h
    cases h
  rw [if_neg q9] at h
  by_cases q10 : n < p + 29
  · rw [if_pos q10] at h
    cases h
  rw [if_neg q10] at h
  by_cases q11 : n < p + 31
  · rw [if_pos q11] at h
    cases h
  rw [if_neg q11] at h
  exact ⟨by omega, by cases z <;> simp_all⟩

theorem eqBp_cells {a b : Bp} (h : eqBp a b = true) : bpC a = bpC b := by
  simp only [eqBp, Bool.and_eq_true, beq_iff_eq, eqP] at h
  obtain ⟨h0, h1, h2, h3, h4, ⟨h5, h6⟩, h7, h8, h9, h10⟩ := h
  rw [eqB_iff, decide_eq_true_iff] at h2 h4
  exact bpC_congr a b h0 ((eqFl_iff _ _).1 h1) (brC_nums h2) h3 (brC_nums h4) h5 h6 h7 h8 h9 h10
theorem hd_of {s : ByteArray} {H C : List UInt8} (h : s.data.toList = H ++ C) (hH : H.length = 4) : hdAt s = H := seg (A := []) (X := H) (C := C) (by simpa using h) rfl hH
theorem len_of {s : ByteArray} {l : List UInt8} (h : s.data.toList = l) : s.size = l.length := by
  rw [← h]
  simp

theorem okB_at (s : ByteArray) (p : Nat) : okB (brAt s p) = true := by
  have h := beAt_lt s p
  unfold okB prB brAt
  simp only [Bool.and_eq_true, decide_eq_true_eq]
  omega
theorem fit_at (s : ByteArray) (p n : Nat) : fitI n ((numAt s p n : Nat) : Int) = true := by
  have h := beN_lt ((s.data.toList.drop p).take n)
  have hl : ((s.data.toList.drop p).take n).length ≤ n := List.length_take_le n _
  have h3 : 256 ^ ((s.data.toList.drop p).take n).length ≤ 256 ^ n := Nat.pow_le_pow_right (by decide) hl
  have h4 : numAt s p n < 256 ^ n := Nat.lt_of_lt_of_le h h3
  have e : ((256 ^ n : Nat) : Int) = 256 ^ n := by simp
  unfold fitI
  rw [decide_eq_true (Int.natCast_nonneg _), decide_eq_true (show ((numAt s p n : Nat) : Int) < 256 ^ n by omega)]
  rfl
theorem okBd_at (s : ByteArray) (p : Nat) (k : Int) (hz : pzAt s (p + 21) = false) : okBd (bpAt s p k) = true := by
  have h := beAt_lt s (p + 21)
  have hp : okPt ((beAt s (p + 21) : Int) / 4096 * 16) ((beAt s (p + 21) : Int) % 4096) = true := by
    unfold pzAt at hz
    rw [beq_eq_false_iff_ne] at hz
    unfold okPt prB
    simp only [Bool.and_eq_true, decide_eq_true_eq]
    omega
  unfold okBd okTm
  show (okB (brAt s (p + 1)) && (okB (brAt s (p + 13)) && (okPt ((beAt s (p + 21) : Int) / 4096 * 16) ((beAt s (p + 21) : Int) % 4096) && (fitI 4 (numAt s (p + 9) 4 : Nat) && (fitI 2 (numAt s (p + 23) 2 : Nat) && (fitI 2 (numAt s (p + 25) 2 : Nat) && (fitI 2 (numAt s (p + 27) 2 : Nat) && fitI 2 (numAt s (p + 29) 2 : Nat)))))))) = true
  rw [okB_at, okB_at, hp, fit_at, fit_at, fit_at, fit_at, fit_at]
  rfl
theorem by_at (s : ByteArray) (p : Nat) (k : Int) : byBp (bpAt s p k) := ⟨fun i => byX_lt _ i, fun i => byX_lt _ i⟩
theorem i64_fit {n : Nat} {v : Int} (hn : n ≤ 7) (h : fitI n v = true) : i64R v := by
  obtain ⟨h0, h1⟩ := fitI_all h
  have e : ((256 ^ n : Nat) : Int) = 256 ^ n := by simp
  have h3 : 256 ^ n ≤ 256 ^ 7 := Nat.pow_le_pow_right (by decide) hn
  exact ⟨by omega, by omega⟩
theorem rg_of {b : Bp} (h : okBd b = true) : rgBp b := by
  obtain ⟨_, _, _, hcost, hage, hmx, hhel, hwai⟩ := okBd_all h
  exact ⟨i64_fit (by decide) hcost, i64_fit (by decide) hage, i64_fit (by decide) hmx, i64_fit (by decide) hhel, i64_fit (by decide) hwai⟩


end Go.Proofs.YtajbkoggmhgjfaaDoor

namespace Go.Proofs.YtajbkoggmhgjfaaDoor
open Go.RowKit
attribute [local go_sem ↓] Go.wp_at_zero Go.wp_at_succ
set_option linter.unusedSimpArgs false
set_option linter.unusedVariables false
set_option maxRecDepth 100000

/-- Behind bytes that are always the same. -/
def exS (l : List UInt8) (st : RSt) (z : List UInt8) : RSt := if (tkN l 0 st (z.length : Nat) false).1 = z then (tkN l 0 st (z.length : Nat) false).2 else flR (tkN l 0 st (z.length : Nat) false).2 3 (st.1 : Int)
theorem exS_le (l : List UInt8) (st : RSt) (z : List UInt8) (h : st.1 ≤ l.length) : (exS l st z).1 ≤ l.length := by
  unfold exS
  split
  · exact tkN_le l 0 st _ false h
  · exact flR_le l _ _ _ (tkN_le l 0 st _ false h)

theorem expect_t {g : Nat} {s : ByteArray} (z : ByteArray) (hz : z.size ≤ 8) (st : RSt) (w : World) (h : RdT w g s 0 st) (hp : st.1 ≤ s.size) (hb : 0 + s.size ≤ 281474976710656) :
    Calls Tryd.prog 53 #[.pointer (some ⟨g, 0, none⟩), .string z] w fun e w' => e = .returned (.tuple #[]) ∧ RdT w' g s 0 (exS s.data.toList st z.data.toList) ∧ w.grownBy w' (some g) := by
  have hzl : z.data.toList.length = z.size := by simp
  have HY : Hid (∀ W, RdT W g s 0 st → Calls Tryd.prog 57 #[.pointer (some ⟨g, 0, none⟩), .int .i64 (z.size : Nat)] W fun e w' => e = .returned (.string ⟨(tkN s.data.toList 0 st (z.size : Nat) false).1.toArray⟩) ∧ RdT w' g s 0 (tkN s.data.toList 0 st (z.size : Nat) false).2 ∧ W.grownBy w' (some g)) := fun W h => bytes_t st _ W h hp hb
  have HA : Hid (∀ W, RdT W g s 0 st → Calls Tryd.prog 91 #[.pointer (some ⟨g, 0, none⟩)] W fun e w' => e = .returned (.int .i64 (st.1 : Int)) ∧ W = w') := fun W h => by
    have q := at_t st W h
    rw [show ((0 : Nat) : Int) + (st.1 : Int) = (st.1 : Int) by omega] at q
    exact q
  have HT : Hid (exS s.data.toList st z.data.toList = if (tkN s.data.toList 0 st (z.size : Nat) false).1 = z.data.toList then (tkN s.data.toList 0 st (z.size : Nat) false).2 else flR (tkN s.data.toList 0 st (z.size : Nat) false).2 3 (st.1 : Int)) := by
    show _ = _
    unfold exS
    rw [hzl]
  generalize (tkN s.data.toList 0 st (z.size : Nat) false).2 = s2 at *
  generalize exS s.data.toList st z.data.toList = s3 at *
  generalize (st.1 : Int) = pl at *
  obtain ⟨u, hu⟩ : ∃ u : ByteArray, u = ⟨(tkN s.data.toList 0 st (z.size : Nat) false).1.toArray⟩ := ⟨_, rfl⟩
  rw [← hu] at HY
  have hul : u.data.toList = (tkN s.data.toList 0 st (z.size : Nat) false).1 := by rw [hu]
  rw [← hul] at HT
  clear hul hu hp hb hzl
  by_cases c : u.data.toList = z.data.toList
  · rw [if_pos c] at HT
    have hT := HT.out
    subst hT
    have hc : u = z := by
      apply ByteArray.ext
      apply Array.toList_inj.1
      exact c
    subst hc
    clear c HT
    go_enter Tryd.func53, Tryd.ntmps53
    go_wp2_with fail
    refine (HA.out _ h).mono ?_
    rintro e w1 ⟨rfl, rfl⟩
    go_wp2_with fail
    refine (HY.out _ h).mono ?_
    rintro e w2 ⟨rfl, h2, g2⟩
    go_wp2
    go_end0
    exact ⟨rfl, h2, g2⟩
  · rw [if_neg c] at HT
    have hT := HT.out
    subst hT
    have hn : (u.toList == z.toList) = false := by
      apply beq_eq_false_iff_ne.2
      rw [ByteArray.toList_eq, ByteArray.toList_eq]
      exact c
    clear c HT
    go_enter Tryd.func53, Tryd.ntmps53
    go_wp2_with fail
    refine (HA.out _ h).mono ?_
    rintro e w1 ⟨rfl, rfl⟩
    go_wp2_with fail
    refine (HY.out _ h).mono ?_
    rintro e w2 ⟨rfl, h2, g2⟩
    go_wp2_with fail
    refine (fail_t s2 3 pl (by decide) _ h2).mono ?_
    rintro e w3 ⟨rfl, h3, g3⟩
    go_wp2
    go_end0
    exact ⟨rfl, h3, grown_same g2 g3⟩

/-- A length that may be. -/
def okLen (v : Nat) : Bool := decide (64 ≤ v) && (decide (v ≤ 1088) && decide (v % 16 = 0))
def rcS (l : List UInt8) (st : RSt) : RSt := if okLen (nmV l 0 st 2) then nmS l 0 st 2 else flR (nmS l 0 st 2) 2 (st.1 : Int)
def rcN (l : List UInt8) (st : RSt) : Nat := if okLen (nmV l 0 st 2) then (nmV l 0 st 2 - 64) / 16 else 0
theorem rcS_le (l : List UInt8) (st : RSt) (h : st.1 ≤ l.length) : (rcS l st).1 ≤ l.length := by
  unfold rcS
  split
  · exact nmS_le l 0 st _ h
  · exact flR_le l _ _ _ (nmS_le l 0 st _ h)
theorem rcN_le (l : List UInt8) (st : RSt) : rcN l st ≤ 64 := by
  unfold rcN okLen
  split
  · next h =>
    simp only [Bool.and_eq_true, decide_eq_true_eq] at h
    omega
  · omega

set_option maxHeartbeats 1600000 in
theorem readCount_t {g : Nat} {s : ByteArray} (st : RSt) (w : World) (h : RdT w g s 0 st) (hp : st.1 ≤ s.size) (hb : 0 + s.size ≤ 281474976710656) :
    Calls Tryd.prog 55 #[.pointer (some ⟨g, 0, none⟩)] w fun e w' => e = .returned (.int .i64 (rcN s.data.toList st : Nat)) ∧ RdT w' g s 0 (rcS s.data.toList st) ∧ w.grownBy w' (some g) := by
  have HY : Hid (∀ W, RdT W g s 0 st → Calls Tryd.prog 58 #[.pointer (some ⟨g, 0, none⟩), .int .i64 2] W fun e w' => e = .returned (.int .i64 (nmV s.data.toList 0 st 2 : Nat)) ∧ RdT w' g s 0 (nmS s.data.toList 0 st 2) ∧ W.grownBy w' (some g)) := fun W h => numK_t st 2 (by decide) W h hp hb
  have HA : Hid (∀ W, RdT W g s 0 st → Calls Tryd.prog 91 #[.pointer (some ⟨g, 0, none⟩)] W fun e w' => e = .returned (.int .i64 (st.1 : Int)) ∧ W = w') := fun W h => by
    have q := at_t st W h
    rw [show ((0 : Nat) : Int) + (st.1 : Int) = (st.1 : Int) by omega] at q
    exact q
  have HV : nmV s.data.toList 0 st 2 < 65536 := nmV_lt s.data.toList 0 st 2
  have HS : Hid (rcS s.data.toList st = if okLen (nmV s.data.toList 0 st 2) then nmS s.data.toList 0 st 2 else flR (nmS s.data.toList 0 st 2) 2 (st.1 : Int)) := rfl
  have HN : Hid (rcN s.data.toList st = if okLen (nmV s.data.toList 0 st 2) then (nmV s.data.toList 0 st 2 - 64) / 16 else 0) := rfl
  generalize nmS s.data.toList 0 st 2 = s2 at *
  generalize nmV s.data.toList 0 st 2 = v at *
  generalize rcS s.data.toList st = s3 at *
  generalize rcN s.data.toList st = n at *
  generalize (st.1 : Int) = pl at *
  clear hp hb
  obtain ⟨u, hu⟩ : ∃ u : Int, (v : Int) - 64 = u := ⟨_, rfl⟩
  have wu : IntKind.i64.wrap ((v : Int) - 64) = u := by rw [IntKind.wrap_i64] <;> omega
  by_cases q0 : u < 0
  · have hk : okLen v = false := by unfold okLen; rw [decide_eq_false (show ¬ 64 ≤ v by omega)]; rfl
    have hS := HS.out
    have hN := HN.out
    rw [hk] at hS hN
    simp only [Bool.false_eq_true, if_false] at hS hN
    subst hS hN
    have d0 : decide (u < 0) = true := decide_eq_true q0
    clear HS HN hk hu
    go_enter Tryd.func55, Tryd.ntmps55
    go_wp2_with fail
    refine (HA.out _ h).mono ?_
    rintro e w1 ⟨rfl, rfl⟩
    go_wp2_with fail
    refine (HY.out _ h).mono ?_
    rintro e w2 ⟨rfl, h2, g2⟩
    go_wp2_with fail
    refine (fail_t s2 2 pl (by decide) _ h2).mono ?_
    rintro e w3 ⟨rfl, h3, g3⟩
    go_wp2
    go_ret
    exact ⟨rfl, h3, grown_same g2 g3⟩
  · have d0 : decide (u < 0) = false := decide_eq_false q0
    by_cases q1 : 1024 < u
    · have hk : okLen v = false := by unfold okLen; rw [decide_eq_false (show ¬ v ≤ 1088 by omega)]; simp
      have hS := HS.out
      have hN := HN.out
      rw [hk] at hS hN
      simp only [Bool.false_eq_true, if_false] at hS hN
      subst hS hN
      have d1 : decide (1024 < u) = true := decide_eq_true q1
      clear HS HN hk hu
      go_enter Tryd.func55, Tryd.ntmps55
      go_wp2_with fail
      refine (HA.out _ h).mono ?_
      rintro e w1 ⟨rfl, rfl⟩
      go_wp2_with fail
      refine (HY.out _ h).mono ?_
      rintro e w2 ⟨rfl, h2, g2⟩
      go_wp2_with fail
      refine (fail_t s2 2 pl (by decide) _ h2).mono ?_
      rintro e w3 ⟨rfl, h3, g3⟩
      go_wp2
      go_ret
      exact ⟨rfl, h3, grown_same g2 g3⟩
    · have d1 : decide (1024 < u) = false := decide_eq_false q1
      have wm : IntKind.i64.wrap (Int.tmod u 16) = u % 16 := by rw [Int.tmod_eq_emod_of_nonneg (by omega), IntKind.wrap_i64] <;> omega
      have wd : IntKind.i64.wrap (Int.tdiv u 16) = u / 16 := by rw [Int.tdiv_eq_ediv_of_nonneg (by omega), IntKind.wrap_i64] <;> omega
      by_cases q2 : u % 16 = 0
      · have hk : okLen v = true := by unfold okLen; rw [decide_eq_true (show 64 ≤ v by omega), decide_eq_true (show v ≤ 1088 by omega), decide_eq_true (show v % 16 = 0 by omega)]; rfl
        have hS := HS.out
        have hN := HN.out
        rw [hk] at hS hN
        simp only [if_true] at hS hN
        subst hS
        have hn : u / 16 = (n : Int) := by omega
        have d2 : (u % 16 != 0) = false := by simp [q2]
        have d3 : (u % 16 == 0) = true := by simp [q2]
        clear HS HN hk hu hN
        go_enter Tryd.func55, Tryd.ntmps55
        go_wp2_with fail
        refine (HA.out _ h).mono ?_
        rintro e w1 ⟨rfl, rfl⟩
        go_wp2_with fail
        refine (HY.out _ h).mono ?_
        rintro e w2 ⟨rfl, h2, g2⟩
        go_wp2
        go_ret
        exact ⟨by rw [← hn]; rfl, h2, g2⟩
      · have hk : okLen v = false := by unfold okLen; rw [decide_eq_false (show ¬ v % 16 = 0 by omega)]; simp
        have hS := HS.out
        have hN := HN.out
        rw [hk] at hS hN
        simp only [Bool.false_eq_true, if_false] at hS hN
        subst hS hN
        have d2 : (u % 16 != 0) = true := by simp [q2]
        have d3 : (u % 16 == 0) = false := by simp [q2]
        clear HS HN hk hu
        go_enter Tryd.func55, Tryd.ntmps55
        go_wp2_with fail
        refine (HA.out _ h).mono ?_
        rintro e w1 ⟨rfl, rfl⟩
        go_wp2_with fail
        refine (HY.out _ h).mono ?_
        rintro e w2 ⟨rfl, h2, g2⟩
        go_wp2_with fail
        refine (fail_t s2 2 pl (by decide) _ h2).mono ?_
        rintro e w3 ⟨rfl, h3, g3⟩
        go_wp2
        go_ret
        exact ⟨rfl, h3, grown_same g2 g3⟩

/-- The states within an instance. -/
def si1 (l : List UInt8) (st : RSt) : RSt := nmS l 0 st 1
def si2 (l : List UInt8) (st : RSt) : RSt := rdBs l 0 (si1 l st)
def si3 (l : List UInt8) (st : RSt) : RSt := nmS l 0 (si2 l st) 4
def si4 (l : List UInt8) (st : RSt) : RSt := nmS l 0 (si3 l st) 1
def si5 (l : List UInt8) (st : RSt) : RSt := nmS l 0 (si4 l st) 1
def si6 (l : List UInt8) (st : RSt) : RSt := nmS l 0 (si5 l st) 1
def riV (l : List UInt8) (st : RSt) : Ins := ⟨ofF (nmV l 0 st 1), rdB l 0 (si1 l st), (nmV l 0 (si2 l st) 4 : Nat), (nmV l 0 (si3 l st) 1 / 16 : Nat), (nmV l 0 (si4 l st) 1 / 16 : Nat), (nmV l 0 (si5 l st) 1 : Nat)⟩
theorem si6_le (l : List UInt8) (st : RSt) (h : st.1 ≤ l.length) : (si6 l st).1 ≤ l.length :=
  nmS_le _ _ _ _ (nmS_le _ _ _ _ (nmS_le _ _ _ _ (nmS_le _ _ _ _ (rdBs_le _ _ _ (nmS_le _ _ _ _ h)))))

set_option maxHeartbeats 3200000 in
theorem readInst_t {g : Nat} {s : ByteArray} (st : RSt) (w : World) (h : RdT w g s 0 st) (hp : st.1 ≤ s.size) (hb : 0 + s.size ≤ 281474976710656) :
    Calls Tryd.prog 60 #[.pointer (some ⟨g, 0, none⟩)] w fun e w' => e = .returned (.agg (inC (riV s.data.toList st))) ∧ RdT w' g s 0 (si6 s.data.toList st) ∧ w.grownBy w' (some g) := by
  have hls : s.data.toList.length = s.size := by simp
  have h0 : st.1 ≤ s.data.toList.length := by rw [hls]; exact hp
  have P1 : (si1 s.data.toList st).1 ≤ s.data.toList.length := nmS_le _ _ _ _ h0
  have P2 : (si2 s.data.toList st).1 ≤ s.data.toList.length := rdBs_le _ _ _ P1
  have P3 : (si3 s.data.toList st).1 ≤ s.data.toList.length := nmS_le _ _ _ _ P2
  have P4 : (si4 s.data.toList st).1 ≤ s.data.toList.length := nmS_le _ _ _ _ P3
  have P5 : (si5 s.data.toList st).1 ≤ s.data.toList.length := nmS_le _ _ _ _ P4
  rw [hls] at P1 P2 P3 P4 P5
  have N1 : Hid (∀ W, RdT W g s 0 st → Calls Tryd.prog 58 #[.pointer (some ⟨g, 0, none⟩), .int .i64 1] W fun e w' => e = .returned (.int .i64 (nmV s.data.toList 0 st 1 : Nat)) ∧ RdT w' g s 0 (si1 s.data.toList st) ∧ W.grownBy w' (some g)) := fun W h => numK_t _ 1 (by decide) W h hp hb
  have N2 : Hid (∀ W, RdT W g s 0 (si1 s.data.toList st) → Calls Tryd.prog 59 #[.pointer (some ⟨g, 0, none⟩)] W fun e w' => e = .returned (.agg (brC (rdB s.data.toList 0 (si1 s.data.toList st)))) ∧ RdT w' g s 0 (si2 s.data.toList st) ∧ W.grownBy w' (some g)) := fun W h => prRead_t _ W h P1 hb
  have N3 : Hid (∀ W, RdT W g s 0 (si2 s.data.toList st) → Calls Tryd.prog 58 #[.pointer (some ⟨g, 0, none⟩), .int .i64 4] W fun e w' => e = .returned (.int .i64 (nmV s.data.toList 0 (si2 s.data.toList st) 4 : Nat)) ∧ RdT w' g s 0 (si3 s.data.toList st) ∧ W.grownBy w' (some g)) := fun W h => numK_t _ 4 (by decide) W h P2 hb
  have N4 : Hid (∀ W, RdT W g s 0 (si3 s.data.toList st) → Calls Tryd.prog 58 #[.pointer (some ⟨g, 0, none⟩), .int .i64 1] W fun e w' => e = .returned (.int .i64 (nmV s.data.toList 0 (si3 s.data.toList st) 1 : Nat)) ∧ RdT w' g s 0 (si4 s.data.toList st) ∧ W.grownBy w' (some g)) := fun W h => numK_t _ 1 (by decide) W h P3 hb
  have N5 : Hid (∀ W, RdT W g s 0 (si4 s.data.toList st) → Calls Tryd.prog 58 #[.pointer (some ⟨g, 0, none⟩), .int .i64 1] W fun e w' => e = .returned (.int .i64 (nmV s.data.toList 0 (si4 s.data.toList st) 1 : Nat)) ∧ RdT w' g s 0 (si5 s.data.toList st) ∧ W.grownBy w' (some g)) := fun W h => numK_t _ 1 (by decide) W h P4 hb
  have N6 : Hid (∀ W, RdT W g s 0 (si5 s.data.toList st) → Calls Tryd.prog 58 #[.pointer (some ⟨g, 0, none⟩), .int .i64 1] W fun e w' => e = .returned (.int .i64 (nmV s.data.toList 0 (si5 s.data.toList st) 1 : Nat)) ∧ RdT w' g s 0 (si6 s.data.toList st) ∧ W.grownBy w' (some g)) := fun W h => numK_t _ 1 (by decide) W h P5 hb
  have L1 : nmV s.data.toList 0 st 1 < 256 := nmV_lt s.data.toList 0 st 1
  have L4 : nmV s.data.toList 0 (si3 s.data.toList st) 1 < 256 := nmV_lt s.data.toList 0 _ 1
  have L5 : nmV s.data.toList 0 (si4 s.data.toList st) 1 < 256 := nmV_lt s.data.toList 0 _ 1
  have HO := Lib.hid (fun W => of_any (nmV s.data.toList 0 st 1) L1 W)
  have HV : Hid (riV s.data.toList st = ⟨ofF (nmV s.data.toList 0 st 1), rdB s.data.toList 0 (si1 s.data.toList st), (nmV s.data.toList 0 (si2 s.data.toList st) 4 : Nat), (nmV s.data.toList 0 (si3 s.data.toList st) 1 / 16 : Nat), (nmV s.data.toList 0 (si4 s.data.toList st) 1 / 16 : Nat), (nmV s.data.toList 0 (si5 s.data.toList st) 1 : Nat)⟩) := rfl
  generalize riV s.data.toList st = rv at *
  generalize nmV s.data.toList 0 st 1 = n1 at *
  generalize rdB s.data.toList 0 (si1 s.data.toList st) = b2 at *
  generalize nmV s.data.toList 0 (si2 s.data.toList st) 4 = n3 at *
  generalize nmV s.data.toList 0 (si3 s.data.toList st) 1 = n4 at *
  generalize nmV s.data.toList 0 (si4 s.data.toList st) 1 = n5 at *
  generalize nmV s.data.toList 0 (si5 s.data.toList st) 1 = n6 at *
  generalize si6 s.data.toList st = t6 at *
  generalize si5 s.data.toList st = t5 at *
  generalize si4 s.data.toList st = t4 at *
  generalize si3 s.data.toList st = t3 at *
  generalize si2 s.data.toList st = t2 at *
  generalize si1 s.data.toList st = t1 at *
  obtain ⟨v4, hv4⟩ : ∃ v : Int, v = ((n4 / 16 : Nat) : Int) := ⟨_, rfl⟩
  obtain ⟨v5, hv5⟩ : ∃ v : Int, v = ((n5 / 16 : Nat) : Int) := ⟨_, rfl⟩
  have w4 : IntKind.i64.wrap (Int.tdiv (n4 : Int) 16) = v4 := by rw [Int.tdiv_eq_ediv_of_nonneg (by omega), IntKind.wrap_i64] <;> omega
  have w5 : IntKind.i64.wrap (Int.tdiv (n5 : Int) 16) = v5 := by rw [Int.tdiv_eq_ediv_of_nonneg (by omega), IntKind.wrap_i64] <;> omega
  have w4b : IntKind.i64.wrap ((n4 : Int) / 16) = v4 := by rw [IntKind.wrap_i64] <;> omega
  have w5b : IntKind.i64.wrap ((n5 : Int) / 16) = v5 := by rw [IntKind.wrap_i64] <;> omega
  rw [← hv4, ← hv5] at HV
  have hg := h.lt
  have R1 := Blk.new w 85 (inC zIns)
  have h00 := h.al (.cells (inC zIns) 85)
  have G0 : w.grownBy (w.alloc (.cells (inC zIns) 85)) (some g) := World.grownBy_alloc w _ _
  clear P1 P2 P3 P4 P5 hp hb h0 hls hv4 hv5 L4 L5 h
  go_enter Tryd.func60, Tryd.ntmps60
  go_wp2_with (refine alloc_blk 85 (inC zIns) (by rfl) rfl Tryd.inZero ?_)
  generalize w.alloc (.cells (inC zIns) 85) = w1 at *
  refine (N1.out _ h00).mono ?_
  rintro e u2 ⟨rfl, h2, g2⟩
  have R2 := R1.grown g2 (by simp; omega)
  have G2 := grown_same G0 g2
  clear R1 h00 G0 g2
  go_wp2_with fail
  refine (HO.out _).mono ?_
  rintro e u3 ⟨rfl, k3⟩
  have R3 := R2.kept k3
  have h3 := h2.below k3
  have G3 := grown_belowT G2 k3
  clear R2 h2 G2 k3
  go_wp2_with fail
  refine (N2.out _ h3).mono ?_
  rintro e u4 ⟨rfl, h4, g4⟩
  have R4 := R3.grown g4 (by simp; omega)
  have G4 := grown_same G3 g4
  clear R3 h3 G3 g4
  go_wp2_with fail
  refine (N3.out _ h4).mono ?_
  rintro e u5 ⟨rfl, h5, g5⟩
  have R5 := R4.grown g5 (by simp; omega)
  have G5 := grown_same G4 g5
  clear R4 h4 G4 g5
  go_wp2_with fail
  refine (N4.out _ h5).mono ?_
  rintro e u6 ⟨rfl, h6, g6⟩
  have R6 := R5.grown g6 (by simp; omega)
  have G6 := grown_same G5 g6
  clear R5 h5 G5 g6
  go_wp2_with fail
  refine (N5.out _ h6).mono ?_
  rintro e u7 ⟨rfl, h7, g7⟩
  have R7 := R6.grown g7 (by simp; omega)
  have G7 := grown_same G6 g7
  clear R6 h6 G6 g7
  go_wp2_with fail
  refine (N6.out _ h7).mono ?_
  rintro e u8 ⟨rfl, h8, g8⟩
  have R8 := R7.grown g8 (by simp; omega)
  have G8 := grown_same G7 g8
  clear R7 h7 G7 g8
  go_wp2_with (first
    | (refine build_blk (t := 85) (inC ⟨ofF n1, b2, (n3 : Int), v4, v5, (n6 : Int)⟩) (by rfl) rfl (by kernel_rfl) ?_)
    | (refine store_blk (k := 0) 85 (.agg (inC ⟨ofF n1, b2, (n3 : Int), v4, v5, (n6 : Int)⟩)) (inC ⟨ofF n1, b2, (n3 : Int), v4, v5, (n6 : Int)⟩) (by rfl) rfl rfl rfl R8 (by kernel_rfl) (show (19 : Nat) ≤ 19 from Nat.le_refl 19) (by rfl) (st_whole _ _ rfl) ?_; intro wz RZ bz gz; have HZ := h8.other R8 (by decide) (by decide) gz; have GZ := grown_own G8 gz (Nat.le_refl _)))
  exact bodyPost_ret (results_blk rfl rfl RZ (by kernel_rfl) (by kernel_rfl)) rfl ⟨by rw [HV.out], HZ, GZ⟩

end Go.Proofs.YtajbkoggmhgjfaaDoor

namespace Go.Proofs.YtajbkoggmhgjfaaDoor
open Go.RowKit
set_option linter.unusedVariables false
set_option linter.unusedSimpArgs false

theorem ex_go (l : List UInt8) (st : RSt) (z : List UInt8) (h : st.2.1 = 0) (hn : st.1 + z.length ≤ l.length) (hz : (l.drop st.1).take z.length = z) : exS l st z = (st.1 + z.length, st.2) := by
  have e := tkN_go l 0 st z.length false h hn (by simp)
  unfold exS
  rw [e, if_pos hz]
theorem ex_form (l : List UInt8) (st : RSt) (z : List UInt8) (h : st.2.1 = 0) (hn : st.1 + z.length ≤ l.length) (hz : ¬ (l.drop st.1).take z.length = z) : (exS l st z).2 = (3, (st.1 : Int)) := by
  have e := tkN_go l 0 st z.length false h hn (by simp)
  unfold exS
  rw [e, if_neg hz]
  unfold flR
  rw [if_neg (by simpa using h)]
theorem ex_miss (l : List UInt8) (st : RSt) (z : List UInt8) (hz : z ≠ []) (h : st.2.1 = 0) (hn : ¬ st.1 + z.length ≤ l.length) (hp : st.1 ≤ l.length) : exS l st z = (st.1, 7, (st.1 : Int)) := by
  have e := tkN_miss l 0 st z.length false h hn hp (by simp)
  unfold exS
  rw [e, if_neg (fun q => hz q.symm), flR_bad _ 3 _ (by simp)]
  simp
theorem ex_bad (l : List UInt8) (st : RSt) (z : List UInt8) (hz : z ≠ []) (h : ¬ st.2.1 = 0) : exS l st z = st := by
  unfold exS
  rw [tkN_bad l 0 st _ false h, if_neg (fun q => hz q.symm), flR_bad st 3 _ h]
theorem rc_go (l : List UInt8) (st : RSt) (h : st.2.1 = 0) (hn : st.1 + 2 ≤ l.length) (hz : okLen (beN ((l.drop st.1).take 2)) = true) : rcS l st = (st.1 + 2, st.2) ∧ rcN l st = (beN ((l.drop st.1).take 2) - 64) / 16 := by
  obtain ⟨a1, a2⟩ := nm_go l st 2 (by decide) (by decide) h hn
  have a1' : nmS l 0 st 2 = (st.1 + 2, st.2) := a1
  have a2' : nmV l 0 st 2 = beN ((l.drop st.1).take 2) := a2
  unfold rcS rcN
  rw [a2', hz, a1']
  exact ⟨rfl, rfl⟩
theorem rc_form (l : List UInt8) (st : RSt) (h : st.2.1 = 0) (hn : st.1 + 2 ≤ l.length) (hz : ¬ okLen (beN ((l.drop st.1).take 2)) = true) : (rcS l st).2 = (2, (st.1 : Int)) := by
  obtain ⟨a1, a2⟩ := nm_go l st 2 (by decide) (by decide) h hn
  have a1' : nmS l 0 st 2 = (st.1 + 2, st.2) := a1
  have a2' : nmV l 0 st 2 = beN ((l.drop st.1).take 2) := a2
  unfold rcS
  rw [a2', if_neg hz, a1']
  unfold flR
  rw [if_neg (by simpa using h)]
theorem rc_miss (l : List UInt8) (st : RSt) (h : st.2.1 = 0) (hn : ¬ st.1 + 2 ≤ l.length) (hp : st.1 ≤ l.length) : rcS l st = (st.1, 7, (st.1 : Int)) := by
  have a1 : nmS l 0 st 2 = (st.1, 7, (st.1 : Int)) := nm_miss l st 2 (by decide) (by decide) h hn hp
  unfold rcS
  rw [a1]
  split
  · rfl
  · exact flR_bad _ 2 _ (by simp)
theorem rc_bad (l : List UInt8) (st : RSt) (h : ¬ st.2.1 = 0) : rcS l st = st := by
  have a1 : nmS l 0 st 2 = st := nm_bad l st 2 h
  unfold rcS
  rw [a1]
  split
  · rfl
  · exact flR_bad _ 2 _ h
theorem tk_go (l : List UInt8) (st : RSt) (n : Nat) (h : st.2.1 = 0) (hn : st.1 + n ≤ l.length) : tkN l 0 st (n : Int) false = ((l.drop st.1).take n, st.1 + n, st.2) := tkN_go l 0 st n false h hn (by simp)
theorem tk_miss (l : List UInt8) (st : RSt) (n : Nat) (h : st.2.1 = 0) (hn : ¬ st.1 + n ≤ l.length) (hp : st.1 ≤ l.length) : (tkN l 0 st (n : Int) false).2 = (st.1, 7, (st.1 : Int)) := by
  rw [tkN_miss l 0 st n false h hn hp (by simp)]
  simp

/-- The states of a reader of a message, one behind the other. -/
def mh1 (l : List UInt8) : RSt := exS l (0, 0, -1) [0, 0, 3, 2]
def mh2 (l : List UInt8) : RSt := sb9 l 0 (mh1 l)
def mh3 (l : List UInt8) : RSt := exS l (mh2 l) [0]
def mh4 (l : List UInt8) : RSt := rcS l (mh3 l)
def mh5 (l : List UInt8) : RSt := exS l (mh4 l) [0]
def mh6 (l : List UInt8) : RSt := (tkN l 0 (mh5 l) 32 false).2
def mh7 (l : List UInt8) : RSt := nmS l 0 (mh6 l) 2
def mh8 (l : List UInt8) : RSt := (tkN l 0 (mh7 l) 16 false).2
def mh9 (l : List UInt8) : RSt := nmS l 0 (mh8 l) 4
def mh10 (l : List UInt8) : RSt := rdBs l 0 (mh9 l)
def mh11 (l : List UInt8) : RSt := nmS l 0 (mh10 l) 1
/-- What is read. -/
def rdMs (l : List UInt8) : Ms := ⟨rbB l 0 (mh1 l) 3, ⟨(Lib.trimRightB (tkN l 0 (mh5 l) 32 false).1 0).toArray⟩, (nmV l 0 (mh6 l) 2 : Nat), ⟨(tkN l 0 (mh7 l) 16 false).1.toArray⟩, (nmV l 0 (mh8 l) 4 : Nat), rdB l 0 (mh9 l), (nmV l 0 (mh10 l) 1 : Nat)⟩
/-- The states of a reader of instances. -/
def itS (l : List UInt8) (st : RSt) : Nat → RSt
  | 0 => st
  | k + 1 => si6 l (itS l st k)
def itV (l : List UInt8) (st : RSt) (n : Nat) : List Ins := (List.range n).map fun k => riV l (itS l st k)
theorem itV_succ (l : List UInt8) (st : RSt) (n : Nat) : itV l st (n + 1) = itV l st n ++ [riV l (itS l st n)] := by
  unfold itV
  rw [List.range_succ, List.map_append]
  rfl
theorem itV_len (l : List UInt8) (st : RSt) (n : Nat) : (itV l st n).length = n := by simp [itV]
theorem itS_le (l : List UInt8) (st : RSt) (h : st.1 ≤ l.length) : ∀ n, (itS l st n).1 ≤ l.length
  | 0 => h
  | n + 1 => si6_le l _ (itS_le l st h n)

/-- What lies there. -/
def inAt (s : ByteArray) (p : Nat) : Ins := ⟨ofF (numAt s p 1), brAt s (p + 1), (numAt s (p + 9) 4 : Nat), (numAt s (p + 13) 1 / 16 : Nat), (numAt s (p + 14) 1 / 16 : Nat), (numAt s (p + 15) 1 : Nat)⟩
def bsAt (s : ByteArray) (p n : Nat) : List UInt8 := (s.data.toList.drop p).take n
def msAt (s : ByteArray) : Ms := ⟨bpAt s 4 3, ⟨(Lib.trimRightB (bsAt s 39 32) 0).toArray⟩, (numAt s 71 2 : Nat), ⟨(bsAt s 73 16).toArray⟩, (numAt s 89 4 : Nat), brAt s 93, (numAt s 101 1 : Nat)⟩
def cntAt (s : ByteArray) : Nat := (numAt s 36 2 - 64) / 16
def insAt (s : ByteArray) (p n : Nat) : List Ins := (List.range n).map fun k => inAt s (p + 16 * k)
theorem insAt_succ (s : ByteArray) (p n : Nat) : insAt s p (n + 1) = insAt s p n ++ [inAt s (p + 16 * n)] := by
  unfold insAt
  rw [List.range_succ, List.map_append]
  rfl
theorem insAt_len (s : ByteArray) (p n : Nat) : (insAt s p n).length = n := by simp [insAt]
/-- What is wrong first, and where: ahead of the instances; in one; in all. -/
def mE (s : ByteArray) : Option (Int × Nat) :=
  if s.size < 4 then some (7, 0) else
  if ¬ hdAt s = [0, 0, 3, 2] then some (3, 0) else
  if (bdE s.size 4 (pzAt s 25)).isSome = true then bdE s.size 4 (pzAt s 25) else
  if s.size < 36 then some (7, 35) else
  if ¬ bsAt s 35 1 = [0] then some (3, 35) else
  if s.size < 38 then some (7, 36) else
  if ¬ okLen (numAt s 36 2) = true then some (2, 36) else
  if s.size < 39 then some (7, 38) else
  if ¬ bsAt s 38 1 = [0] then some (3, 38) else
  if s.size < 71 then some (7, 39) else
  if s.size < 73 then some (7, 71) else
  if s.size < 89 then some (7, 73) else
  if s.size < 93 then some (7, 89) else
  if s.size < 95 then some (7, 93) else
  if s.size < 101 then some (7, 95) else
  if s.size < 102 then some (7, 101) else
  none
def inE (n p : Nat) : Option (Int × Nat) :=
  if n < p + 1 then some (7, p) else
  if n < p + 3 then some (7, p + 1) else
  if n < p + 9 then some (7, p + 3) else
  if n < p + 13 then some (7, p + 9) else
  if n < p + 14 then some (7, p + 13) else
  if n < p + 15 then some (7, p + 14) else
  if n < p + 16 then some (7, p + 15) else
  none
def insE (n p : Nat) : Nat → Option (Int × Nat)
  | 0 => none
  | k + 1 => if (insE n p k).isSome = true then insE n p k else inE n (p + 16 * k)
def allE (s : ByteArray) : Option (Int × Nat) := if (mE s).isSome = true then mE s else insE s.size 102 (cntAt s)

theorem si6_bad (l : List UInt8) (st : RSt) (h : ¬ st.2.1 = 0) : si6 l st = st := by
  have e1 : si1 l st = st := nm_bad l st 1 h
  have e2 : si2 l st = st := by unfold si2; rw [e1]; exact br_bad l st h
  have e3 : si3 l st = st := by unfold si3; rw [e2]; exact nm_bad l st 4 h
  have e4 : si4 l st = st := by unfold si4; rw [e3]; exact nm_bad l st 1 h
  have e5 : si5 l st = st := by unfold si5; rw [e4]; exact nm_bad l st 1 h
  unfold si6; rw [e5]; exact nm_bad l st 1 h
theorem itS_bad (l : List UInt8) (st : RSt) (h : ¬ st.2.1 = 0) : ∀ n, itS l st n = st
  | 0 => rfl
  | n + 1 => by
    show si6 l (itS l st n) = st
    rw [itS_bad l st h n]
    exact si6_bad l st h

section
variable (l : List UInt8) (st : RSt)
theorem ibad5 (h : ¬ (si5 l st).2.1 = 0) : si6 l st = si5 l st := nm_bad l _ 1 h
theorem ibad4 (h : ¬ (si4 l st).2.1 = 0) : si6 l st = si4 l st := by
  have e : si5 l st = si4 l st := nm_bad l _ 1 h
  rw [ibad5 l st (by rw [e]; exact h), e]
theorem ibad3 (h : ¬ (si3 l st).2.1 = 0) : si6 l st = si3 l st := by
  have e : si4 l st = si3 l st := nm_bad l _ 1 h
  rw [ibad4 l st (by rw [e]; exact h), e]
theorem ibad2 (h : ¬ (si2 l st).2.1 = 0) : si6 l st = si2 l st := by
  have e : si3 l st = si2 l st := nm_bad l _ 4 h
  rw [ibad3 l st (by rw [e]; exact h), e]
theorem ibad1 (h : ¬ (si1 l st).2.1 = 0) : si6 l st = si1 l st := by
  have e : si2 l st = si1 l st := br_bad l _ h
  rw [ibad2 l st (by rw [e]; exact h), e]
end

/-- An instance, both ways. -/
theorem in_ways (s : ByteArray) (p : Nat) (hp : p ≤ s.size) :
    (∃ e x, inE s.size p = some (e, x) ∧ e ≠ 0 ∧ (si6 s.data.toList (p, 0, -1)).2 = (e, (x : Int))) ∨
    (inE s.size p = none ∧ p + 16 ≤ s.size ∧ si6 s.data.toList (p, 0, -1) = (p + 16, 0, -1) ∧ riV s.data.toList (p, 0, -1) = inAt s p) := by
  have hl : s.data.toList.length = s.size := by simp
  generalize hL : s.data.toList = l at *
  have hbe : ∀ q, beAt s q = beN ((l.drop q).take 2) := fun q => by unfold beAt; rw [hL]
  have hnu : ∀ q n, numAt s q n = beN ((l.drop q).take n) := fun q n => by unfold numAt; rw [hL]
  by_cases q0 : s.size < p + 1
  · refine Or.inl ⟨7, p, by unfold inE; simp only [if_pos q0], by decide, ?_⟩
    have e : si1 l (p, 0, -1) = (p, 7, ((p : Nat) : Int)) := by
      have e := nm_miss l (p, 0, -1) 1 (by decide) (by decide) (by rfl) (by show ¬ p + 1 ≤ l.length; omega) (by show p ≤ l.length; omega)
      exact e
    rw [ibad1 l _ (by rw [e]; simp), e]
  obtain ⟨e1, v1⟩ := nm_go l (p, 0, -1) 1 (by decide) (by decide) (by rfl) (by show p + 1 ≤ l.length; omega)
  replace e1 : si1 l (p, 0, -1) = (p + 1, 0, -1) := e1
  by_cases q1 : s.size < p + 3
  · refine Or.inl ⟨7, p + 1, by unfold inE; simp only [if_neg q0, if_pos q1], by decide, ?_⟩
    have e : si2 l (p, 0, -1) = (p + 1, 7, ((p + 1 : Nat) : Int)) := by
      have e := br_miss1 l (si1 l (p, 0, -1)) (by rw [e1]) (by rw [e1]; show ¬ p + 1 + 2 ≤ l.length; omega) (by rw [e1]; show p + 1 ≤ l.length; omega)
      rw [e1] at e
      unfold si2; rw [e1]; exact e
    rw [ibad2 l _ (by rw [e]; simp), e]
  by_cases q3 : s.size < p + 9
  · refine Or.inl ⟨7, p + 3, by unfold inE; simp only [if_neg q0, if_neg q1, if_pos q3], by decide, ?_⟩
    have e : si2 l (p, 0, -1) = (p + 3, 7, ((p + 3 : Nat) : Int)) := by
      have e := br_miss2 l (si1 l (p, 0, -1)) (by rw [e1]) (by rw [e1]; show p + 1 + 2 ≤ l.length; omega) (by rw [e1]; show ¬ p + 1 + 8 ≤ l.length; omega)
      rw [e1] at e
      unfold si2; rw [e1]; exact e
    rw [ibad2 l _ (by rw [e]; simp), e]
  obtain ⟨e2, v2⟩ := br_go l (si1 l (p, 0, -1)) (by rw [e1]) (by rw [e1]; show p + 1 + 8 ≤ l.length; omega)
  rw [e1] at e2 v2
  replace e2 : si2 l (p, 0, -1) = (p + 9, 0, -1) := by unfold si2; rw [e1]; exact e2
  by_cases q9 : s.size < p + 13
  · refine Or.inl ⟨7, p + 9, by unfold inE; simp only [if_neg q0, if_neg q1, if_neg q3, if_pos q9], by decide, ?_⟩
    have e : si3 l (p, 0, -1) = (p + 9, 7, ((p + 9 : Nat) : Int)) := by
      have e := nm_miss l (si2 l (p, 0, -1)) 4 (by decide) (by decide) (by rw [e2]) (by rw [e2]; show ¬ p + 9 + 4 ≤ l.length; omega) (by rw [e2]; show p + 9 ≤ l.length; omega)
      rw [e2] at e
      unfold si3; rw [e2]
      exact e
    rw [ibad3 l _ (by rw [e]; simp), e]
  obtain ⟨e3, v3⟩ := nm_go l (si2 l (p, 0, -1)) 4 (by decide) (by decide) (by rw [e2]) (by rw [e2]; show p + 9 + 4 ≤ l.length; omega)
  rw [e2] at e3 v3
  replace e3 : si3 l (p, 0, -1) = (p + 13, 0, -1) := by unfold si3; rw [e2]; exact e3
  by_cases q13 : s.size < p + 14
  · refine Or.inl ⟨7, p + 13, by unfold inE; simp only [if_neg q0, if_neg q1, if_neg q3, if_neg q9, if_pos q13], by decide, ?_⟩
    have e : si4 l (p, 0, -1) = (p + 13, 7, ((p + 13 : Nat) : Int)) := by
      have e := nm_miss l (si3 l (p, 0, -1)) 1 (by decide) (by decide) (by rw [e3]) (by rw [e3]; show ¬ p + 13 + 1 ≤ l.length; omega) (by rw [e3]; show p + 13 ≤ l.length; omega)
      rw [e3] at e
      unfold si4; rw [e3]
      exact e
    rw [ibad4 l _ (by rw [e]; simp), e]
  obtain ⟨e4, v4⟩ := nm_go l (si3 l (p, 0, -1)) 1 (by decide) (by decide) (by rw [e3]) (by rw [e3]; show p + 13 + 1 ≤ l.length; omega)
  rw [e3] at e4 v4
  replace e4 : si4 l (p, 0, -1) = (p + 14, 0, -1) := by unfold si4; rw [e3]; exact e4
  by_cases q14 : s.size < p + 15
  · refine Or.inl ⟨7, p + 14, by unfold inE; simp only [if_neg q0, if_neg q1, if_neg q3, if_neg q9, if_neg q13, if_pos q14], by decide, ?_⟩
    have e : si5 l (p, 0, -1) = (p + 14, 7, ((p + 14 : Nat) : Int)) := by
      have e := nm_miss l (si4 l (p, 0, -1)) 1 (by decide) (by decide) (by rw [e4]) (by rw [e4]; show ¬ p + 14 + 1 ≤ l.length; omega) (by rw [e4]; show p + 14 ≤ l.length; omega)
      rw [e4] at e
      unfold si5; rw [e4]
      exact e
    rw [ibad5 l _ (by rw [e]; simp), e]
  obtain ⟨e5, v5⟩ := nm_go l (si4 l (p, 0, -1)) 1 (by decide) (by decide) (by rw [e4]) (by rw [e4]; show p + 14 + 1 ≤ l.length; omega)
  rw [e4] at e5 v5
  replace e5 : si5 l (p, 0, -1) = (p + 15, 0, -1) := by unfold si5; rw [e4]; exact e5
  by_cases q15 : s.size < p + 16
  · refine Or.inl ⟨7, p + 15, by unfold inE; simp only [if_neg q0, if_neg q1, if_neg q3, if_neg q9, if_neg q13, if_neg q14, if_pos q15], by decide, ?_⟩
    have e : si6 l (p, 0, -1) = (p + 15, 7, ((p + 15 : Nat) : Int)) := by
      have e := nm_miss l (si5 l (p, 0, -1)) 1 (by decide) (by decide) (by rw [e5]) (by rw [e5]; show ¬ p + 15 + 1 ≤ l.length; omega) (by rw [e5]; show p + 15 ≤ l.length; omega)
      rw [e5] at e
      unfold si6; rw [e5]
      exact e
    rw [e]
  obtain ⟨e6, v6⟩ := nm_go l (si5 l (p, 0, -1)) 1 (by decide) (by decide) (by rw [e5]) (by rw [e5]; show p + 15 + 1 ≤ l.length; omega)
  rw [e5] at e6 v6
  replace e6 : si6 l (p, 0, -1) = (p + 16, 0, -1) := by unfold si6; rw [e5]; exact e6
  refine Or.inr ⟨by unfold inE; simp only [if_neg q0, if_neg q1, if_neg q3, if_neg q9, if_neg q13, if_neg q14, if_neg q15], by omega, e6, ?_⟩
  unfold riV inAt
  rw [e1, e2, e3, e4, e5]
  have w1 : nmV l 0 (p, 0, -1) 1 = numAt s p 1 := by rw [hnu]; exact v1
  have w2 : rdB l 0 (p + 1, 0, -1) = brAt s (p + 1) := by unfold brAt; rw [hbe, hL]; exact v2
  have w3 : nmV l 0 (p + 9, 0, -1) 4 = numAt s (p + 9) 4 := by rw [hnu]; exact v3
  have w4 : nmV l 0 (p + 13, 0, -1) 1 = numAt s (p + 13) 1 := by rw [hnu]; exact v4
  have w5 : nmV l 0 (p + 14, 0, -1) 1 = numAt s (p + 14) 1 := by rw [hnu]; exact v5
  have w6 : nmV l 0 (p + 15, 0, -1) 1 = numAt s (p + 15) 1 := by rw [hnu]; exact v6
  rw [w1, w2, w3, w4, w5, w6]

/-- All instances, both ways. -/
theorem it_ways (s : ByteArray) (p : Nat) (hp : p ≤ s.size) : ∀ n,
    (∃ e x, insE s.size p n = some (e, x) ∧ e ≠ 0 ∧ (itS s.data.toList (p, 0, -1) n).2 = (e, (x : Int))) ∨
    (insE s.size p n = none ∧ p + 16 * n ≤ s.size ∧ itS s.data.toList (p, 0, -1) n = (p + 16 * n, 0, -1) ∧ itV s.data.toList (p, 0, -1) n = insAt s p n)
  | 0 => Or.inr ⟨rfl, by omega, rfl, rfl⟩
  | n + 1 => by
    rcases it_ways s p hp n with ⟨e, x, h1, h2, h3⟩ | ⟨h1, h2, h3, h4⟩
    · left
      refine ⟨e, x, ?_, h2, ?_⟩
      · show (if (insE s.size p n).isSome = true then insE s.size p n else inE s.size (p + 16 * n)) = _
        rw [h1]
        rfl
      · show (si6 s.data.toList (itS s.data.toList (p, 0, -1) n)).2 = _
        rw [si6_bad _ _ (by rw [h3]; exact h2), h3]
    · have hE : insE s.size p (n + 1) = inE s.size (p + 16 * n) := by
        show (if (insE s.size p n).isSome = true then insE s.size p n else inE s.size (p + 16 * n)) = _
        rw [h1]
        rfl
      have hS : itS s.data.toList (p, 0, -1) (n + 1) = si6 s.data.toList (p + 16 * n, 0, -1) := by
        show si6 s.data.toList (itS s.data.toList (p, 0, -1) n) = _
        rw [h3]
      rcases in_ways s (p + 16 * n) h2 with ⟨e, x, g1, g2, g3⟩ | ⟨g1, g2, g3, g4⟩
      · exact Or.inl ⟨e, x, by rw [hE, g1], g2, by rw [hS, g3]⟩
      · refine Or.inr ⟨by rw [hE, g1], by omega, by rw [hS, g3, show p + 16 * n + 16 = p + 16 * (n + 1) by omega], ?_⟩
        rw [itV_succ, insAt_succ, h4, h3, g4]

theorem cfB_three (b : Bp) (h : b.k = 3) : cfB b = b := by
  unfold cfB
  rw [if_neg (by omega)]
section
variable (l : List UInt8)
theorem hbad10 (h : ¬ (mh10 l).2.1 = 0) : mh11 l = mh10 l := nm_bad l _ 1 h
theorem hbad9 (h : ¬ (mh9 l).2.1 = 0) : mh11 l = mh9 l := by
  have e : mh10 l = mh9 l := br_bad l _ h
  rw [hbad10 l (by rw [e]; exact h), e]
theorem hbad8 (h : ¬ (mh8 l).2.1 = 0) : mh11 l = mh8 l := by
  have e : mh9 l = mh8 l := nm_bad l _ 4 h
  rw [hbad9 l (by rw [e]; exact h), e]
theorem hbad7 (h : ¬ (mh7 l).2.1 = 0) : mh11 l = mh7 l := by
  have e : mh8 l = mh7 l := (by unfold mh8; rw [tkN_bad l 0 _ _ false h])
  rw [hbad8 l (by rw [e]; exact h), e]
theorem hbad6 (h : ¬ (mh6 l).2.1 = 0) : mh11 l = mh6 l := by
  have e : mh7 l = mh6 l := nm_bad l _ 2 h
  rw [hbad7 l (by rw [e]; exact h), e]
theorem hbad5 (h : ¬ (mh5 l).2.1 = 0) : mh11 l = mh5 l := by
  have e : mh6 l = mh5 l := (by unfold mh6; rw [tkN_bad l 0 _ _ false h])
  rw [hbad6 l (by rw [e]; exact h), e]
theorem hbad4 (h : ¬ (mh4 l).2.1 = 0) : mh11 l = mh4 l := by
  have e : mh5 l = mh4 l := ex_bad l _ [0] (by simp) h
  rw [hbad5 l (by rw [e]; exact h), e]
theorem hbad3 (h : ¬ (mh3 l).2.1 = 0) : mh11 l = mh3 l := by
  have e : mh4 l = mh3 l := rc_bad l _ h
  rw [hbad4 l (by rw [e]; exact h), e]
theorem hbad2 (h : ¬ (mh2 l).2.1 = 0) : mh11 l = mh2 l := by
  have e : mh3 l = mh2 l := ex_bad l _ [0] (by simp) h
  rw [hbad3 l (by rw [e]; exact h), e]
theorem sb_bad (st : RSt) (h : ¬ st.2.1 = 0) : sb9 l 0 st = st := by
  have e : sb1 l 0 st = st := nm_bad l st 1 h
  rw [bad1 l st (by rw [e]; exact h), e]
theorem hbad1 (h : ¬ (mh1 l).2.1 = 0) : mh11 l = mh1 l := by
  have e : mh2 l = mh1 l := sb_bad l _ h
  rw [hbad2 l (by rw [e]; exact h), e]
end

/-- The head, both ways. -/
theorem head_ways (s : ByteArray) :
    (∃ e x, mE s = some (e, x) ∧ e ≠ 0 ∧ (mh11 s.data.toList).2 = (e, (x : Int))) ∨
    (mE s = none ∧ 102 ≤ s.size ∧ okLen (numAt s 36 2) = true ∧ mh11 s.data.toList = (102, 0, -1) ∧ rcN s.data.toList (mh3 s.data.toList) = cntAt s ∧ rdMs s.data.toList = msAt s) := by
  have hl : s.data.toList.length = s.size := by simp
  have hsb := sb_ways s 4
  generalize hL : s.data.toList = l at *
  have hbe : ∀ q, beAt s q = beN ((l.drop q).take 2) := fun q => by unfold beAt; rw [hL]
  have hnu : ∀ q n, numAt s q n = beN ((l.drop q).take n) := fun q n => by unfold numAt; rw [hL]
  have hbs : ∀ q n, bsAt s q n = (l.drop q).take n := fun q n => by unfold bsAt; rw [hL]
  have hhd : hdAt s = (l.drop 0).take 4 := by unfold hdAt; rw [hL]
  by_cases q0 : s.size < 4
  · refine Or.inl ⟨7, 0, by unfold mE; simp only [if_pos q0], by decide, ?_⟩
    have e : mh1 l = (0, 7, ((0 : Nat) : Int)) := by
      exact ex_miss l (0, 0, -1) [0, 0, 3, 2] (by simp) rfl (by show ¬ 0 + 4 ≤ l.length; omega) (Nat.zero_le _)
    rw [hbad1 l (by rw [e]; simp), e]
  by_cases q1 : ¬ hdAt s = [0, 0, 3, 2]
  · refine Or.inl ⟨3, 0, by unfold mE; simp only [if_neg q0, if_pos q1], by decide, ?_⟩
    have e : (mh1 l).2 = (3, ((0 : Nat) : Int)) := ex_form l (0, 0, -1) [0, 0, 3, 2] rfl (by show 0 + 4 ≤ l.length; omega) (show ¬ (l.drop 0).take 4 = [0, 0, 3, 2] by rw [← hhd]; exact q1)
    rw [hbad1 l (by rw [e]; simp), e]
  have e1 : mh1 l = (4, 0, -1) := ex_go l (0, 0, -1) [0, 0, 3, 2] rfl (by show 0 + 4 ≤ l.length; omega) (show (l.drop 0).take 4 = [0, 0, 3, 2] by rw [← hhd]; exact Classical.not_not.1 q1)
  rcases hsb (by omega) 3 with ⟨e, x, h1, h2, h3⟩ | ⟨h1, h2, h3⟩
  · refine Or.inl ⟨e, x, by unfold mE; simp only [if_neg q0, if_neg q1]; rw [h1]; rfl, h2, ?_⟩
    have e2 : (mh2 l).2 = (e, (x : Int)) := by unfold mh2; rw [e1]; exact h3
    rw [hbad2 l (by rw [e2]; exact h2), e2]
  have q2 : ¬ (bdE s.size 4 (pzAt s 25)).isSome = true := by rw [h1]; simp
  have h35 := (bdE_full h1).1
  have e2 : mh2 l = (35, 0, -1) := by unfold mh2; rw [e1]; exact h2
  by_cases q3 : s.size < 36
  · refine Or.inl ⟨7, 35, by unfold mE; simp only [if_neg q0, if_neg q1, if_neg q2, if_pos q3], by decide, ?_⟩
    have e : mh3 l = (35, 7, ((35 : Nat) : Int)) := by
      have e := ex_miss l (mh2 l) [0] (by simp) (by rw [e2]) (by rw [e2]; show ¬ 35 + 1 ≤ l.length; omega) (by rw [e2]; show 35 ≤ l.length; omega)
      rw [e2] at e
      unfold mh3; rw [e2]; exact e
    rw [hbad3 l (by rw [e]; simp), e]
  by_cases q4 : ¬ bsAt s 35 1 = [0]
  · refine Or.inl ⟨3, 35, by unfold mE; simp only [if_neg q0, if_neg q1, if_neg q2, if_neg q3, if_pos q4], by decide, ?_⟩
    have e : (mh3 l).2 = (3, ((35 : Nat) : Int)) := by
      have e := ex_form l (mh2 l) [0] (by rw [e2]) (by rw [e2]; show 35 + 1 ≤ l.length; omega) (by rw [e2, ← hbs]; exact (show ¬ bsAt s 35 1 = [0] from q4))
      rw [e2] at e
      unfold mh3; rw [e2]; exact e
    rw [hbad3 l (by rw [e]; simp), e]
  have e3 : mh3 l = (36, 0, -1) := by
    have e := ex_go l (mh2 l) [0] (by rw [e2]) (by rw [e2]; show 35 + 1 ≤ l.length; omega) (by rw [e2, ← hbs]; exact Classical.not_not.1 q4)
    rw [e2] at e
    unfold mh3; rw [e2]; exact e
  by_cases q5 : s.size < 38
  · refine Or.inl ⟨7, 36, by unfold mE; simp only [if_neg q0, if_neg q1, if_neg q2, if_neg q3, if_neg q4, if_pos q5], by decide, ?_⟩
    have e : mh4 l = (36, 7, ((36 : Nat) : Int)) := by
      have e := rc_miss l (mh3 l) (by rw [e3]) (by rw [e3]; show ¬ 36 + 2 ≤ l.length; omega) (by rw [e3]; show 36 ≤ l.length; omega)
      rw [e3] at e
      unfold mh4; rw [e3]; exact e
    rw [hbad4 l (by rw [e]; simp), e]
  by_cases q6 : ¬ okLen (numAt s 36 2) = true
  · refine Or.inl ⟨2, 36, by unfold mE; simp only [if_neg q0, if_neg q1, if_neg q2, if_neg q3, if_neg q4, if_neg q5, if_pos q6], by decide, ?_⟩
    have e : (mh4 l).2 = (2, ((36 : Nat) : Int)) := by
      have e := rc_form l (mh3 l) (by rw [e3]) (by rw [e3]; show 36 + 2 ≤ l.length; omega) (by rw [e3, ← hnu]; exact q6)
      rw [e3] at e
      unfold mh4; rw [e3]; exact e
    rw [hbad4 l (by rw [e]; simp), e]
  obtain ⟨e4, v4⟩ := rc_go l (mh3 l) (by rw [e3]) (by rw [e3]; show 36 + 2 ≤ l.length; omega) (by rw [e3, ← hnu]; exact Classical.not_not.1 q6)
  rw [e3] at e4
  rw [show (mh3 l).1 = 36 by rw [e3], ← hnu] at v4
  replace e4 : mh4 l = (38, 0, -1) := by unfold mh4; rw [e3]; exact e4
  by_cases q7 : s.size < 39
  · refine Or.inl ⟨7, 38, by unfold mE; simp only [if_neg q0, if_neg q1, if_neg q2, if_neg q3, if_neg q4, if_neg q5, if_neg q6, if_pos q7], by decide, ?_⟩
    have e : mh5 l = (38, 7, ((38 : Nat) : Int)) := by
      have e := ex_miss l (mh4 l) [0] (by simp) (by rw [e4]) (by rw [e4]; show ¬ 38 + 1 ≤ l.length; omega) (by rw [e4]; show 38 ≤ l.length; omega)
      rw [e4] at e
      unfold mh5; rw [e4]; exact e
    rw [hbad5 l (by rw [e]; simp), e]
  by_cases q8 : ¬ bsAt s 38 1 = [0]
  · refine Or.inl ⟨3, 38, by unfold mE; simp only [if_neg q0, if_neg q1, if_neg q2, if_neg q3, if_neg q4, if_neg q5, if_neg q6, if_neg q7, if_pos q8], by decide, ?_⟩
    have e : (mh5 l).2 = (3, ((38 : Nat) : Int)) := by
      have e := ex_form l (mh4 l) [0] (by rw [e4]) (by rw [e4]; show 38 + 1 ≤ l.length; omega) (by rw [e4, ← hbs]; exact (show ¬ bsAt s 38 1 = [0] from q8))
      rw [e4] at e
      unfold mh5; rw [e4]; exact e
    rw [hbad5 l (by rw [e]; simp), e]
  have e5 : mh5 l = (39, 0, -1) := by
    have e := ex_go l (mh4 l) [0] (by rw [e4]) (by rw [e4]; show 38 + 1 ≤ l.length; omega) (by rw [e4, ← hbs]; exact Classical.not_not.1 q8)
    rw [e4] at e
    unfold mh5; rw [e4]; exact e
  by_cases q9 : s.size < 71
  · refine Or.inl ⟨7, 39, by unfold mE; simp only [if_neg q0, if_neg q1, if_neg q2, if_neg q3, if_neg q4, if_neg q5, if_neg q6, if_neg q7, if_neg q8, if_pos q9], by decide, ?_⟩
    have e : mh6 l = (39, 7, ((39 : Nat) : Int)) := by
      have e := tk_miss l (mh5 l) 32 (by rw [e5]) (by rw [e5]; show ¬ 39 + 32 ≤ l.length; omega) (by rw [e5]; show 39 ≤ l.length; omega)
      rw [e5] at e
      unfold mh6; rw [e5]; exact e
    rw [hbad6 l (by rw [e]; simp), e]
  have f6 : tkN l 0 (39, 0, -1) 32 false = ((l.drop 39).take 32, 71, 0, -1) := tk_go l (39, 0, -1) 32 rfl (by show 39 + 32 ≤ l.length; omega)
  have e6 : mh6 l = (71, 0, -1) := by unfold mh6; rw [e5, f6]
  by_cases q10 : s.size < 73
  · refine Or.inl ⟨7, 71, by unfold mE; simp only [if_neg q0, if_neg q1, if_neg q2, if_neg q3, if_neg q4, if_neg q5, if_neg q6, if_neg q7, if_neg q8, if_neg q9, if_pos q10], by decide, ?_⟩
    have e : mh7 l = (71, 7, ((71 : Nat) : Int)) := by
      have e := nm_miss l (mh6 l) 2 (by decide) (by decide) (by rw [e6]) (by rw [e6]; show ¬ 71 + 2 ≤ l.length; omega) (by rw [e6]; show 71 ≤ l.length; omega)
      rw [e6] at e
      unfold mh7; rw [e6]; exact e
    rw [hbad7 l (by rw [e]; simp), e]
  obtain ⟨e7, v7⟩ := nm_go l (mh6 l) 2 (by decide) (by decide) (by rw [e6]) (by rw [e6]; show 71 + 2 ≤ l.length; omega)
  rw [e6] at e7 v7
  replace e7 : mh7 l = (73, 0, -1) := by unfold mh7; rw [e6]; exact e7
  by_cases q11 : s.size < 89
  · refine Or.inl ⟨7, 73, by unfold mE; simp only [if_neg q0, if_neg q1, if_neg q2, if_neg q3, if_neg q4, if_neg q5, if_neg q6, if_neg q7, if_neg q8, if_neg q9, if_neg q10, if_pos q11], by decide, ?_⟩
    have e : mh8 l = (73, 7, ((73 : Nat) : Int)) := by
      have e := tk_miss l (mh7 l) 16 (by rw [e7]) (by rw [e7]; show ¬ 73 + 16 ≤ l.length; omega) (by rw [e7]; show 73 ≤ l.length; omega)
      rw [e7] at e
      unfold mh8; rw [e7]; exact e
    rw [hbad8 l (by rw [e]; simp), e]
  have f8 : tkN l 0 (73, 0, -1) 16 false = ((l.drop 73).take 16, 89, 0, -1) := tk_go l (73, 0, -1) 16 rfl (by show 73 + 16 ≤ l.length; omega)
  have e8 : mh8 l = (89, 0, -1) := by unfold mh8; rw [e7, f8]
  by_cases q12 : s.size < 93
  · refine Or.inl ⟨7, 89, by unfold mE; simp only [if_neg q0, if_neg q1, if_neg q2, if_neg q3, if_neg q4, if_neg q5, if_neg q6, if_neg q7, if_neg q8, if_neg q9, if_neg q10, if_neg q11, if_pos q12], by decide, ?_⟩
    have e : mh9 l = (89, 7, ((89 : Nat) : Int)) := by
      have e := nm_miss l (mh8 l) 4 (by decide) (by decide) (by rw [e8]) (by rw [e8]; show ¬ 89 + 4 ≤ l.length; omega) (by rw [e8]; show 89 ≤ l.length; omega)
      rw [e8] at e
      unfold mh9; rw [e8]; exact e
    rw [hbad9 l (by rw [e]; simp), e]
  obtain ⟨e9, v9⟩ := nm_go l (mh8 l) 4 (by decide) (by decide) (by rw [e8]) (by rw [e8]; show 89 + 4 ≤ l.length; omega)
  rw [e8] at e9 v9
  replace e9 : mh9 l = (93, 0, -1) := by unfold mh9; rw [e8]; exact e9
  by_cases q13 : s.size < 95
  · refine Or.inl ⟨7, 93, by unfold mE; simp only [if_neg q0, if_neg q1, if_neg q2, if_neg q3, if_neg q4, if_neg q5, if_neg q6, if_neg q7, if_neg q8, if_neg q9, if_neg q10, if_neg q11, if_neg q12, if_pos q13], by decide, ?_⟩
    have e : mh10 l = (93, 7, ((93 : Nat) : Int)) := by
      have e := br_miss1 l (mh9 l) (by rw [e9]) (by rw [e9]; show ¬ 93 + 2 ≤ l.length; omega) (by rw [e9]; show 93 ≤ l.length; omega)
      rw [e9] at e
      unfold mh10; rw [e9]; exact e
    rw [hbad10 l (by rw [e]; simp), e]
  by_cases q14 : s.size < 101
  · refine Or.inl ⟨7, 95, by unfold mE; simp only [if_neg q0, if_neg q1, if_neg q2, if_neg q3, if_neg q4, if_neg q5, if_neg q6, if_neg q7, if_neg q8, if_neg q9, if_neg q10, if_neg q11, if_neg q12, if_neg q13, if_pos q14], by decide, ?_⟩
    have e : mh10 l = (95, 7, ((95 : Nat) : Int)) := by
      have e := br_miss2 l (mh9 l) (by rw [e9]) (by rw [e9]; show 93 + 2 ≤ l.length; omega) (by rw [e9]; show ¬ 93 + 8 ≤ l.length; omega)
      rw [e9] at e
      unfold mh10; rw [e9]; exact e
    rw [hbad10 l (by rw [e]; simp), e]
  obtain ⟨e10, v10⟩ := br_go l (mh9 l) (by rw [e9]) (by rw [e9]; show 93 + 8 ≤ l.length; omega)
  rw [e9] at e10 v10
  replace e10 : mh10 l = (101, 0, -1) := by unfold mh10; rw [e9]; exact e10
  by_cases q15 : s.size < 102
  · refine Or.inl ⟨7, 101, by unfold mE; simp only [if_neg q0, if_neg q1, if_neg q2, if_neg q3, if_neg q4, if_neg q5, if_neg q6, if_neg q7, if_neg q8, if_neg q9, if_neg q10, if_neg q11, if_neg q12, if_neg q13, if_neg q14, if_pos q15], by decide, ?_⟩
    have e : mh11 l = (101, 7, ((101 : Nat) : Int)) := by
      have e := nm_miss l (mh10 l) 1 (by decide) (by decide) (by rw [e10]) (by rw [e10]; show ¬ 101 + 1 ≤ l.length; omega) (by rw [e10]; show 101 ≤ l.length; omega)
      rw [e10] at e
      unfold mh11; rw [e10]; exact e
    rw [e]
  obtain ⟨e11, v11⟩ := nm_go l (mh10 l) 1 (by decide) (by decide) (by rw [e10]) (by rw [e10]; show 101 + 1 ≤ l.length; omega)
  rw [e10] at e11 v11
  replace e11 : mh11 l = (102, 0, -1) := by unfold mh11; rw [e10]; exact e11
  refine Or.inr ⟨by unfold mE; simp only [if_neg q0, if_neg q1, if_neg q2, if_neg q3, if_neg q4, if_neg q5, if_neg q6, if_neg q7, if_neg q8, if_neg q9, if_neg q10, if_neg q11, if_neg q12, if_neg q13, if_neg q14, if_neg q15], by omega, Classical.not_not.1 q6, e11, by rw [v4]; rfl, ?_⟩
  unfold rdMs msAt
  rw [e1, e5, e6, e7, e8, e9, e10, f6, f8]
  have hb : rbB l 0 (4, 0, -1) 3 = bpAt s 4 3 := by
    unfold rbB
    rw [h2, if_pos rfl, h3, cfB_three _ rfl]
  have w7 : nmV l 0 (71, 0, -1) 2 = numAt s 71 2 := by rw [hnu]; exact v7
  have w9 : nmV l 0 (89, 0, -1) 4 = numAt s 89 4 := by rw [hnu]; exact v9
  have w10 : rdB l 0 (93, 0, -1) = brAt s 93 := by unfold brAt; rw [hbe, hL]; exact v10
  have w11 : nmV l 0 (101, 0, -1) 1 = numAt s 101 1 := by rw [hnu]; exact v11
  rw [hb, w7, w9, w10, w11, hbs, hbs]

/-- The state behind the last instance. -/
def mhF (l : List UInt8) : RSt := itS l (mh11 l) (rcN l (mh3 l))
/-- All of it, both ways. -/
theorem all_ways (s : ByteArray) :
    (∃ e x, allE s = some (e, x) ∧ e ≠ 0 ∧ (mhF s.data.toList).2 = (e, (x : Int))) ∨
    (allE s = none ∧ okLen (numAt s 36 2) = true ∧ 102 + 16 * cntAt s ≤ s.size ∧ mhF s.data.toList = (102 + 16 * cntAt s, 0, -1) ∧ rdMs s.data.toList = msAt s ∧ itV s.data.toList (mh11 s.data.toList) (rcN s.data.toList (mh3 s.data.toList)) = insAt s 102 (cntAt s)) := by
  unfold allE mhF
  rcases head_ways s with ⟨e, x, h1, h2, h3⟩ | ⟨h1, h2, h0, h3, h4, h5⟩
  · exact Or.inl ⟨e, x, by rw [h1]; rfl, h2, by rw [itS_bad _ _ (by rw [h3]; exact h2), h3]⟩
  · rw [h1, h3, h4]
    rcases it_ways s 102 h2 (cntAt s) with ⟨e, x, g1, g2, g3⟩ | ⟨g1, g2, g3, g4⟩
    · exact Or.inl ⟨e, x, by rw [g1]; rfl, g2, g3⟩
    · exact Or.inr ⟨by rw [g1]; rfl, h0, g2, g3, h5, g4⟩

end Go.Proofs.YtajbkoggmhgjfaaDoor

namespace Go.Proofs.YtajbkoggmhgjfaaDoor
open Go.RowKit
set_option linter.unusedVariables false
set_option linter.unusedSimpArgs false

/-- The cells of a message hang on its numbers alone. -/
theorem msC_congr (a b : Ms) (v : Value) (h0 : bpC a.base = bpC b.base) (h1 : a.name = b.name) (h2 : a.rev = b.rev) (h3 : a.dig = b.dig) (h4 : a.cost = b.cost) (h5 : brC a.br = brC b.br) (h6 : a.hop = b.hop) : msC a v = msC b v := by
  obtain ⟨⟨k, ⟨x0, x1, x2, x3, x4, x5, x6⟩, ⟨rp, re, ra⟩, c, ⟨sp, se, sa⟩, pp, pn, t1, t2, t3, t4⟩, nm, rv, dg, co, ⟨bp, be, ba⟩, ho⟩ := a
  obtain ⟨⟨k', ⟨y0, y1, y2, y3, y4, y5, y6⟩, ⟨rp', re', ra'⟩, c', ⟨sp', se', sa'⟩, pp', pn', t1', t2', t3', t4'⟩, nm', rv', dg', co', ⟨bp', be', ba'⟩, ho'⟩ := b
  simp only at h1 h2 h3 h4 h6
  subst h1 h2 h3 h4 h6
  simp only [brC, Array.mk.injEq, List.cons.injEq, Value.int.injEq, true_and, and_true] at h5
  simp only [bpC, Array.mk.injEq, List.cons.injEq, Value.int.injEq, Value.bool.injEq, true_and, and_true] at h0
  obtain ⟨rfl, rfl, rfl, rfl, rfl, rfl, rfl, rfl, rfl, rfl, g2, g3, g4, g5, g6, g7, rfl, rfl, rfl, f2, f3, f4, f5, f6, f7, rfl, rfl, rfl, rfl, rfl, rfl⟩ := h0
  obtain ⟨rfl, rfl, e2, e3, e4, e5, e6, e7⟩ := h5
  simp only [msC, g2, g3, g4, g5, g6, g7, f2, f3, f4, f5, f6, f7, e2, e3, e4, e5, e6, e7]
theorem inC_congr (a b : Ins) (h0 : a.f = b.f) (h1 : brC a.root = brC b.root) (h2 : a.cost = b.cost) (h3 : a.br = b.br) (h4 : a.pt = b.pt) (h5 : a.hop = b.hop) : inC a = inC b := by
  obtain ⟨f, ⟨rp, re, ra⟩, c, x, y, h⟩ := a
  obtain ⟨f', ⟨rp', re', ra'⟩, c', x', y', h'⟩ := b
  simp only at h0 h2 h3 h4 h5
  subst h0 h2 h3 h4 h5
  simp only [brC, Array.mk.injEq, List.cons.injEq, Value.int.injEq, true_and, and_true] at h1
  obtain ⟨rfl, rfl, e2, e3, e4, e5, e6, e7⟩ := h1
  simp only [inC, e2, e3, e4, e5, e6, e7]

theorem drop_rep (n : Nat) (u : List UInt8) : (List.replicate n (0 : UInt8) ++ u).dropWhile (· == 0) = u.dropWhile (· == 0) := by
  induction n with
  | zero => rfl
  | succ n ih => rw [List.replicate_succ, List.cons_append, List.dropWhile_cons_of_pos (by rfl), ih]
theorem trim_pad (l : List UInt8) (n : Nat) (h : (l.getLast? == some 0) = false) : Lib.trimRightB (l ++ List.replicate n 0) 0 = l := by
  unfold Lib.trimRightB
  rw [List.reverse_append, List.reverse_replicate, drop_rep]
  have h2 : l.reverse.dropWhile (· == 0) = l.reverse := by
    rw [List.getLast?_eq_head?_reverse] at h
    generalize l.reverse = u at *
    match u with
    | [] => rfl
    | x :: u =>
      refine List.dropWhile_cons_of_neg ?_
      intro q
      rw [beq_iff_eq] at q
      subst q
      simp at h
  rw [h2, List.reverse_reverse]
theorem trim_len (l : List UInt8) : (Lib.trimRightB l 0).length ≤ l.length := by
  unfold Lib.trimRightB
  rw [List.length_reverse]
  have h := (List.dropWhile_sublist (l := l.reverse) (· == 0)).length_le
  rw [List.length_reverse] at h
  exact h
theorem trim_last (l : List UInt8) : ((Lib.trimRightB l 0).getLast? == some 0) = false := by
  unfold Lib.trimRightB
  rw [List.getLast?_reverse]
  cases h : (l.reverse.dropWhile (· == 0)).head? with
  | none => rfl
  | some x =>
    have h2 := List.head?_dropWhile_not (· == 0) l.reverse
    rw [h] at h2
    simp only [beq_eq_false_iff_ne, ne_eq, Option.some.injEq]
    intro q
    subst q
    simp at h2

/-- Field by field, where it stands. -/
theorem insE_none (n p : Nat) : ∀ k, p + 16 * k ≤ n → insE n p k = none
  | 0, _ => rfl
  | k + 1, h => by
    show (if (insE n p k).isSome = true then insE n p k else inE n (p + 16 * k)) = none
    rw [insE_none n p k (by omega)]
    show inE n (p + 16 * k) = none
    unfold inE
    rw [if_neg (by omega), if_neg (by omega), if_neg (by omega), if_neg (by omega), if_neg (by omega), if_neg (by omega), if_neg (by omega)]
theorem okIns_all {x : Ins} (h : okIns x = true) : okF x.f = true ∧ okB x.root = true ∧ fitI 4 x.cost = true ∧ (0 ≤ x.br ∧ x.br ≤ 15) ∧ (0 ≤ x.pt ∧ x.pt ≤ 15) ∧ fitI 1 x.hop = true := by
  simp only [okIns, Bool.and_eq_true] at h
  obtain ⟨h0, h1, h2, h3, h4, h5⟩ := h
  exact ⟨h0, h1, h2, rkI_all h3, rkI_all h4, h5⟩
theorem br_at {s : ByteArray} {p : Nat} {b : Br} (hx : byB b) (hok : okB b = true) (h1 : (s.data.toList.drop p).take 2 = putL (b.p + b.e).toNat 2) (h2 : (s.data.toList.drop (p + 2)).take 6 = nb 6 b.a) : brC (brAt s p) = brC b := by
  obtain ⟨p0, p1, pm, e0, e1⟩ := okB_all hok
  exact br_back b hx hok (brAt s p) (beAt s p) ((s.data.toList.drop (p + 2)).take 6) rfl (by unfold beAt; rw [h1, beN_putL_fits _ _ (by omega)]; omega) h2
theorem in_back {s : ByteArray} {p : Nat} {x : Ins} {H C : List UInt8} (h : s.data.toList = H ++ (insL x ++ C)) (hH : H.length = p) (hx : byIns x) (hok : okIns x = true) : inC (inAt s p) = inC x := by
  obtain ⟨hf, hroot, hcost, ⟨b0, b1⟩, ⟨t0, t1⟩, hhop⟩ := okIns_all hok
  unfold insL at h
  rw [packL_two] at h
  have f0 : (s.data.toList.drop (p + 0)).take 1 = putL (byF x.f) 1 := seg (A := H) (X := putL (byF x.f) 1) (C := putL (x.root.p + x.root.e).toNat 2 ++ nb 6 x.root.a ++ putL x.cost.toNat 4 ++ putL (16 * x.br).toNat 1 ++ putL (16 * x.pt).toNat 1 ++ putL x.hop.toNat 1 ++ C) (by rw [h]; simp only [List.append_assoc]) (by simp only [List.length_append, putL_length, nb6_len, hH, Nat.add_zero]) (by first | exact putL_length _ _ | exact nb6_len _)
  have f1 : (s.data.toList.drop (p + 1)).take 2 = putL (x.root.p + x.root.e).toNat 2 := seg (A := H ++ putL (byF x.f) 1) (X := putL (x.root.p + x.root.e).toNat 2) (C := nb 6 x.root.a ++ putL x.cost.toNat 4 ++ putL (16 * x.br).toNat 1 ++ putL (16 * x.pt).toNat 1 ++ putL x.hop.toNat 1 ++ C) (by rw [h]; simp only [List.append_assoc]) (by simp only [List.length_append, putL_length, nb6_len, hH, Nat.add_zero]) (by first | exact putL_length _ _ | exact nb6_len _)
  have f2 : (s.data.toList.drop (p + 3)).take 6 = nb 6 x.root.a := seg (A := H ++ putL (byF x.f) 1 ++ putL (x.root.p + x.root.e).toNat 2) (X := nb 6 x.root.a) (C := putL x.cost.toNat 4 ++ putL (16 * x.br).toNat 1 ++ putL (16 * x.pt).toNat 1 ++ putL x.hop.toNat 1 ++ C) (by rw [h]; simp only [List.append_assoc]) (by simp only [List.length_append, putL_length, nb6_len, hH, Nat.add_zero]) (by first | exact putL_length _ _ | exact nb6_len _)
  have f3 : (s.data.toList.drop (p + 9)).take 4 = putL x.cost.toNat 4 := seg (A := H ++ putL (byF x.f) 1 ++ putL (x.root.p + x.root.e).toNat 2 ++ nb 6 x.root.a) (X := putL x.cost.toNat 4) (C := putL (16 * x.br).toNat 1 ++ putL (16 * x.pt).toNat 1 ++ putL x.hop.toNat 1 ++ C) (by rw [h]; simp only [List.append_assoc]) (by simp only [List.length_append, putL_length, nb6_len, hH, Nat.add_zero]) (by first | exact putL_length _ _ | exact nb6_len _)
  have f4 : (s.data.toList.drop (p + 13)).take 1 = putL (16 * x.br).toNat 1 := seg (A := H ++ putL (byF x.f) 1 ++ putL (x.root.p + x.root.e).toNat 2 ++ nb 6 x.root.a ++ putL x.cost.toNat 4) (X := putL (16 * x.br).toNat 1) (C := putL (16 * x.pt).toNat 1 ++ putL x.hop.toNat 1 ++ C) (by rw [h]; simp only [List.append_assoc]) (by simp only [List.length_append, putL_length, nb6_len, hH, Nat.add_zero]) (by first | exact putL_length _ _ | exact nb6_len _)
  have f5 : (s.data.toList.drop (p + 14)).take 1 = putL (16 * x.pt).toNat 1 := seg (A := H ++ putL (byF x.f) 1 ++ putL (x.root.p + x.root.e).toNat 2 ++ nb 6 x.root.a ++ putL x.cost.toNat 4 ++ putL (16 * x.br).toNat 1) (X := putL (16 * x.pt).toNat 1) (C := putL x.hop.toNat 1 ++ C) (by rw [h]; simp only [List.append_assoc]) (by simp only [List.length_append, putL_length, nb6_len, hH, Nat.add_zero]) (by first | exact putL_length _ _ | exact nb6_len _)
  have f6 : (s.data.toList.drop (p + 15)).take 1 = putL x.hop.toNat 1 := seg (A := H ++ putL (byF x.f) 1 ++ putL (x.root.p + x.root.e).toNat 2 ++ nb 6 x.root.a ++ putL x.cost.toNat 4 ++ putL (16 * x.br).toNat 1 ++ putL (16 * x.pt).toNat 1) (X := putL x.hop.toNat 1) (C := C) (by rw [h]; simp only [List.append_assoc]) (by simp only [List.length_append, putL_length, nb6_len, hH, Nat.add_zero]) (by first | exact putL_length _ _ | exact nb6_len _)
  have e4 : (numAt s (p + 13) 1 : Int) = 16 * x.br := by
    show ((beN ((s.data.toList.drop (p + 13)).take 1) : Nat) : Int) = _
    rw [f4, nat_i _ _ (by unfold fitI; rw [decide_eq_true (show 0 ≤ 16 * x.br by omega), decide_eq_true (show 16 * x.br < 256 ^ 1 by omega)]; rfl)]
  have e5 : (numAt s (p + 14) 1 : Int) = 16 * x.pt := by
    show ((beN ((s.data.toList.drop (p + 14)).take 1) : Nat) : Int) = _
    rw [f5, nat_i _ _ (by unfold fitI; rw [decide_eq_true (show 0 ≤ 16 * x.pt by omega), decide_eq_true (show 16 * x.pt < 256 ^ 1 by omega)]; rfl)]
  refine inC_congr _ _ ?_ (br_at hx hroot f1 f2) ?_ ?_ ?_ ?_
  · show ofF (beN ((s.data.toList.drop (p + 0)).take 1)) = x.f
    rw [f0, beN_putL_fits _ _ (by have := byF_lt x.f hf; simpa using this), ofF_by x.f hf]
  · show ((beN ((s.data.toList.drop (p + 9)).take 4) : Nat) : Int) = x.cost
    rw [f3, nat_i _ _ hcost]
  · show ((numAt s (p + 13) 1 / 16 : Nat) : Int) = x.br
    omega
  · show ((numAt s (p + 14) 1 / 16 : Nat) : Int) = x.pt
    omega
  · show ((beN ((s.data.toList.drop (p + 15)).take 1) : Nat) : Int) = x.hop
    rw [f6, nat_i _ _ hhop]
theorem inss_split (l : List Ins) (j : Nat) (h : j < l.length) : inssL l = inssL (l.take j) ++ (insL l[j] ++ inssL (l.drop (j + 1))) := by
  conv => lhs; rw [← List.take_append_drop j l, List.drop_eq_getElem_cons h]
  unfold inssL
  rw [List.flatMap_append, List.flatMap_cons]

/-- What is written is read. -/
theorem ms_back (m : Ms) (l : List Ins) (c : List UInt8) (s : ByteArray) (hok : okMs m l = true) (hx : byBp m.base ∧ byB m.br ∧ ∀ x ∈ l, byIns x) (hs : s.data.toList = writeM m l ++ c) :
    allE s = none ∧ (∀ v, msC (msAt s) v = msC m v) ∧ cntAt s = l.length ∧ ∀ j (h : j < l.length), inC (inAt s (102 + 16 * j)) = inC l[j] := by
  obtain ⟨hk, hrp, hname, htz, hrev, hdig, hcost, hbr, hhop, hlen, hall⟩ := okMs_all hok
  obtain ⟨hxb, hxr, hxl⟩ := hx
  have hrp' := hrp
  unfold okRp at hrp'
  rw [Bool.and_eq_true] at hrp'
  obtain ⟨hf, hbd⟩ := hrp'
  have hsz := len_of hs
  rw [List.length_append, writeM_len m l hname hdig] at hsz
  have hW := headM_len m l.length hname hdig
  have hdl : m.dig.data.toList.length = 16 := by rw [← hdig]; simp
  have hpl := padL_len m.name hname
  have hs1 : s.data.toList = headM m l.length ++ (inssL l ++ c) := by rw [hs]; unfold writeM; rw [List.append_assoc]
  have hs2 := hs1
  unfold headM at hs2
  rw [packL_two] at hs2
  have f0 : (s.data.toList.drop 0).take 4 = [0, 0, 3, 2] := seg (A := []) (X := [0, 0, 3, 2]) (C := bodyL m.base ++ [0] ++ putL (64 + 16 * l.length) 2 ++ [0] ++ padL m.name ++ putL m.rev.toNat 2 ++ m.dig.data.toList ++ putL m.cost.toNat 4 ++ putL (m.br.p + m.br.e).toNat 2 ++ nb 6 m.br.a ++ putL m.hop.toNat 1 ++ inssL l ++ c) (by rw [hs2]; simp only [List.append_assoc, List.nil_append]) (by simp only [List.length_append, putL_length, nb6_len, bodyL_len, hdl, hpl, List.length_cons, List.length_nil]) (by first | exact putL_length _ _ | exact nb6_len _ | exact bodyL_len _ | exact hdl | exact hpl | rfl)
  have f1 : (s.data.toList.drop 4).take 31 = bodyL m.base := seg (A := [0, 0, 3, 2]) (X := bodyL m.base) (C := [0] ++ putL (64 + 16 * l.length) 2 ++ [0] ++ padL m.name ++ putL m.rev.toNat 2 ++ m.dig.data.toList ++ putL m.cost.toNat 4 ++ putL (m.br.p + m.br.e).toNat 2 ++ nb 6 m.br.a ++ putL m.hop.toNat 1 ++ inssL l ++ c) (by rw [hs2]; simp only [List.append_assoc, List.nil_append]) (by simp only [List.length_append, putL_length, nb6_len, bodyL_len, hdl, hpl, List.length_cons, List.length_nil]) (by first | exact putL_length _ _ | exact nb6_len _ | exact bodyL_len _ | exact hdl | exact hpl | rfl)
  have f2 : (s.data.toList.drop 35).take 1 = [0] := seg (A := [0, 0, 3, 2] ++ bodyL m.base) (X := [0]) (C := putL (64 + 16 * l.length) 2 ++ [0] ++ padL m.name ++ putL m.rev.toNat 2 ++ m.dig.data.toList ++ putL m.cost.toNat 4 ++ putL (m.br.p + m.br.e).toNat 2 ++ nb 6 m.br.a ++ putL m.hop.toNat 1 ++ inssL l ++ c) (by rw [hs2]; simp only [List.append_assoc, List.nil_append]) (by simp only [List.length_append, putL_length, nb6_len, bodyL_len, hdl, hpl, List.length_cons, List.length_nil]) (by first | exact putL_length _ _ | exact nb6_len _ | exact bodyL_len _ | exact hdl | exact hpl | rfl)
  have f3 : (s.data.toList.drop 36).take 2 = putL (64 + 16 * l.length) 2 := seg (A := [0, 0, 3, 2] ++ bodyL m.base ++ [0]) (X := putL (64 + 16 * l.length) 2) (C := [0] ++ padL m.name ++ putL m.rev.toNat 2 ++ m.dig.data.toList ++ putL m.cost.toNat 4 ++ putL (m.br.p + m.br.e).toNat 2 ++ nb 6 m.br.a ++ putL m.hop.toNat 1 ++ inssL l ++ c) (by rw [hs2]; simp only [List.append_assoc, List.nil_append]) (by simp only [List.length_append, putL_length, nb6_len, bodyL_len, hdl, hpl, List.length_cons, List.length_nil]) (by first | exact putL_length _ _ | exact nb6_len _ | exact bodyL_len _ | exact hdl | exact hpl | rfl)
  have f4 : (s.data.toList.drop 38).take 1 = [0] := seg (A := [0, 0, 3, 2] ++ bodyL m.base ++ [0] ++ putL (64 + 16 * l.length) 2) (X := [0]) (C := padL m.name ++ putL m.rev.toNat 2 ++ m.dig.data.toList ++ putL m.cost.toNat 4 ++ putL (m.br.p + m.br.e).toNat 2 ++ nb 6 m.br.a ++ putL m.hop.toNat 1 ++ inssL l ++ c) (by rw [hs2]; simp only [List.append_assoc, List.nil_append]) (by simp only [List.length_append, putL_length, nb6_len, bodyL_len, hdl, hpl, List.length_cons, List.length_nil]) (by first | exact putL_length _ _ | exact nb6_len _ | exact bodyL_len _ | exact hdl | exact hpl | rfl)
  have f5 : (s.data.toList.drop 39).take 32 = padL m.name := seg (A := [0, 0, 3, 2] ++ bodyL m.base ++ [0] ++ putL (64 + 16 * l.length) 2 ++ [0]) (X := padL m.name) (C := putL m.rev.toNat 2 ++ m.dig.data.toList ++ putL m.cost.toNat 4 ++ putL (m.br.p + m.br.e).toNat 2 ++ nb 6 m.br.a ++ putL m.hop.toNat 1 ++ inssL l ++ c) (by rw [hs2]; simp only [List.append_assoc, List.nil_append]) (by simp only [List.length_append, putL_length, nb6_len, bodyL_len, hdl, hpl, List.length_cons, List.length_nil]) (by first | exact putL_length _ _ | exact nb6_len _ | exact bodyL_len _ | exact hdl | exact hpl | rfl)
  have f6 : (s.data.toList.drop 71).take 2 = putL m.rev.toNat 2 := seg (A := [0, 0, 3, 2] ++ bodyL m.base ++ [0] ++ putL (64 + 16 * l.length) 2 ++ [0] ++ padL m.name) (X := putL m.rev.toNat 2) (C := m.dig.data.toList ++ putL m.cost.toNat 4 ++ putL (m.br.p + m.br.e).toNat 2 ++ nb 6 m.br.a ++ putL m.hop.toNat 1 ++ inssL l ++ c) (by rw [hs2]; simp only [List.append_assoc, List.nil_append]) (by simp only [List.length_append, putL_length, nb6_len, bodyL_len, hdl, hpl, List.length_cons, List.length_nil]) (by first | exact putL_length _ _ | exact nb6_len _ | exact bodyL_len _ | exact hdl | exact hpl | rfl)
  have f7 : (s.data.toList.drop 73).take 16 = m.dig.data.toList := seg (A := [0, 0, 3, 2] ++ bodyL m.base ++ [0] ++ putL (64 + 16 * l.length) 2 ++ [0] ++ padL m.name ++ putL m.rev.toNat 2) (X := m.dig.data.toList) (C := putL m.cost.toNat 4 ++ putL (m.br.p + m.br.e).toNat 2 ++ nb 6 m.br.a ++ putL m.hop.toNat 1 ++ inssL l ++ c) (by rw [hs2]; simp only [List.append_assoc, List.nil_append]) (by simp only [List.length_append, putL_length, nb6_len, bodyL_len, hdl, hpl, List.length_cons, List.length_nil]) (by first | exact putL_length _ _ | exact nb6_len _ | exact bodyL_len _ | exact hdl | exact hpl | rfl)
  have f8 : (s.data.toList.drop 89).take 4 = putL m.cost.toNat 4 := seg (A := [0, 0, 3, 2] ++ bodyL m.base ++ [0] ++ putL (64 + 16 * l.length) 2 ++ [0] ++ padL m.name ++ putL m.rev.toNat 2 ++ m.dig.data.toList) (X := putL m.cost.toNat 4) (C := putL (m.br.p + m.br.e).toNat 2 ++ nb 6 m.br.a ++ putL m.hop.toNat 1 ++ inssL l ++ c) (by rw [hs2]; simp only [List.append_assoc, List.nil_append]) (by simp only [List.length_append, putL_length, nb6_len, bodyL_len, hdl, hpl, List.length_cons, List.length_nil]) (by first | exact putL_length _ _ | exact nb6_len _ | exact bodyL_len _ | exact hdl | exact hpl | rfl)
  have f9 : (s.data.toList.drop 93).take 2 = putL (m.br.p + m.br.e).toNat 2 := seg (A := [0, 0, 3, 2] ++ bodyL m.base ++ [0] ++ putL (64 + 16 * l.length) 2 ++ [0] ++ padL m.name ++ putL m.rev.toNat 2 ++ m.dig.data.toList ++ putL m.cost.toNat 4) (X := putL (m.br.p + m.br.e).toNat 2) (C := nb 6 m.br.a ++ putL m.hop.toNat 1 ++ inssL l ++ c) (by rw [hs2]; simp only [List.append_assoc, List.nil_append]) (by simp only [List.length_append, putL_length, nb6_len, bodyL_len, hdl, hpl, List.length_cons, List.length_nil]) (by first | exact putL_length _ _ | exact nb6_len _ | exact bodyL_len _ | exact hdl | exact hpl | rfl)
  have f10 : (s.data.toList.drop 95).take 6 = nb 6 m.br.a := seg (A := [0, 0, 3, 2] ++ bodyL m.base ++ [0] ++ putL (64 + 16 * l.length) 2 ++ [0] ++ padL m.name ++ putL m.rev.toNat 2 ++ m.dig.data.toList ++ putL m.cost.toNat 4 ++ putL (m.br.p + m.br.e).toNat 2) (X := nb 6 m.br.a) (C := putL m.hop.toNat 1 ++ inssL l ++ c) (by rw [hs2]; simp only [List.append_assoc, List.nil_append]) (by simp only [List.length_append, putL_length, nb6_len, bodyL_len, hdl, hpl, List.length_cons, List.length_nil]) (by first | exact putL_length _ _ | exact nb6_len _ | exact bodyL_len _ | exact hdl | exact hpl | rfl)
  have f11 : (s.data.toList.drop 101).take 1 = putL m.hop.toNat 1 := seg (A := [0, 0, 3, 2] ++ bodyL m.base ++ [0] ++ putL (64 + 16 * l.length) 2 ++ [0] ++ padL m.name ++ putL m.rev.toNat 2 ++ m.dig.data.toList ++ putL m.cost.toNat 4 ++ putL (m.br.p + m.br.e).toNat 2 ++ nb 6 m.br.a) (X := putL m.hop.toNat 1) (C := inssL l ++ c) (by rw [hs2]; simp only [List.append_assoc, List.nil_append]) (by simp only [List.length_append, putL_length, nb6_len, bodyL_len, hdl, hpl, List.length_cons, List.length_nil]) (by first | exact putL_length _ _ | exact nb6_len _ | exact bodyL_len _ | exact hdl | exact hpl | rfl)
  have hbody := inL_back (inL_of (b := m.base) (l := s.data.toList) (H := [0, 0, 3, 2]) (C := [0] ++ (putL (64 + 16 * l.length) 2 ++ ([0] ++ (padL m.name ++ (putL m.rev.toNat 2 ++ (m.dig.data.toList ++ (putL m.cost.toNat 4 ++ (putL (m.br.p + m.br.e).toNat 2 ++ nb 6 m.br.a ++ putL m.hop.toNat 1))))))) ++ (inssL l ++ c)) (by rw [hs2]; simp only [List.append_assoc]) rfl) hxb hf hbd 3 hk
  obtain ⟨hbc, hpz⟩ := hbody
  replace hpz : pzAt s 25 = false := hpz
  have hn : numAt s 36 2 = 64 + 16 * l.length := by
    unfold numAt
    rw [f3, beN_putL_fits _ _ (by omega)]
  have hcnt : cntAt s = l.length := by unfold cntAt; rw [hn]; omega
  have hE : mE s = none := by
    unfold mE
    rw [if_neg (by omega), if_neg (by rw [show hdAt s = [0, 0, 3, 2] from f0]; simp), hpz, bdE_none _ (by omega), if_neg (by simp), if_neg (by omega), if_neg (by rw [show bsAt s 35 1 = [0] from f2]; simp), if_neg (by omega),
      if_neg (by rw [hn]; unfold okLen; rw [decide_eq_true (show 64 ≤ 64 + 16 * l.length by omega), decide_eq_true (show 64 + 16 * l.length ≤ 1088 by omega), decide_eq_true (show (64 + 16 * l.length) % 16 = 0 by omega)]; simp),
      if_neg (by omega), if_neg (by rw [show bsAt s 38 1 = [0] from f4]; simp), if_neg (by omega), if_neg (by omega), if_neg (by omega), if_neg (by omega), if_neg (by omega), if_neg (by omega), if_neg (by omega)]
  refine ⟨?_, fun v => msC_congr _ _ v hbc ?_ ?_ ?_ ?_ (br_at hxr hbr f9 f10) ?_, hcnt, fun j hj => ?_⟩
  · unfold allE
    rw [hE, hcnt, insE_none _ _ _ (by omega)]
    rfl
  · show (⟨(Lib.trimRightB (bsAt s 39 32) 0).toArray⟩ : ByteArray) = m.name
    rw [show bsAt s 39 32 = padL m.name from f5]
    unfold padL
    rw [trim_pad _ _ htz]
  · show ((numAt s 71 2 : Nat) : Int) = m.rev
    unfold numAt
    rw [f6, nat_i _ _ hrev]
  · show (⟨(bsAt s 73 16).toArray⟩ : ByteArray) = m.dig
    rw [show bsAt s 73 16 = m.dig.data.toList from f7]
  · show ((numAt s 89 4 : Nat) : Int) = m.cost
    unfold numAt
    rw [f8, nat_i _ _ hcost]
  · show ((numAt s 101 1 : Nat) : Int) = m.hop
    unfold numAt
    rw [f11, nat_i _ _ hhop]
  · have hmem : l[j] ∈ l := List.getElem_mem hj
    refine in_back (H := headM m l.length ++ inssL (l.take j)) (C := inssL (l.drop (j + 1)) ++ c) ?_ ?_ (hxl _ hmem) (List.all_eq_true.1 hall _ hmem)
    · rw [hs1, inss_split l j hj]
      simp only [List.append_assoc]
    · rw [List.length_append, hW, inssL_len, List.length_take, Nat.min_eq_left (by omega)]

theorem rk_at (s : ByteArray) (p : Nat) : rkI ((numAt s p 1 / 16 : Nat) : Int) = true := by
  have h := numAt_one s p
  unfold rkI
  rw [decide_eq_true (Int.natCast_nonneg _), decide_eq_true (show ((numAt s p 1 / 16 : Nat) : Int) ≤ 15 by omega)]
  rfl
theorem okIns_at (s : ByteArray) (p : Nat) : okIns (inAt s p) = true := by
  unfold okIns
  show (okF (ofF (numAt s p 1)) && (okB (brAt s (p + 1)) && (fitI 4 ((numAt s (p + 9) 4 : Nat) : Int) && (rkI ((numAt s (p + 13) 1 / 16 : Nat) : Int) && (rkI ((numAt s (p + 14) 1 / 16 : Nat) : Int) && fitI 1 ((numAt s (p + 15) 1 : Nat) : Int)))))) = true
  rw [okF_of, okB_at, fit_at, rk_at, rk_at, fit_at]
  rfl
/-- What is read may be. -/
theorem ms_right (s : ByteArray) (h : allE s = none) (h1 : okLen (numAt s 36 2) = true) (h2 : 102 + 16 * cntAt s ≤ s.size) :
    okMs (msAt s) (insAt s 102 (cntAt s)) = true ∧ (byBp (msAt s).base ∧ byB (msAt s).br ∧ ∀ x ∈ insAt s 102 (cntAt s), byIns x) ∧ (writeM (msAt s) (insAt s 102 (cntAt s))).length ≤ s.size ∧ (msAt s).name.size ≤ 32 ∧ (msAt s).dig.size = 16 := by
  have hm : mE s = none := by
    unfold allE at h
    by_cases q : (mE s).isSome = true
    · rw [if_pos q] at h
      exact h
    · simpa using q
  have hbd : bdE s.size 4 (pzAt s 25) = none := by
    unfold mE at hm
    by_cases q0 : s.size < 4
    · rw [if_pos q0] at hm; cases hm
    rw [if_neg q0] at hm
    by_cases q1 : ¬ hdAt s = [0, 0, 3, 2]
    · rw [if_pos q1] at hm; cases hm
    rw [if_neg q1] at hm
    by_cases q2 : (bdE s.size 4 (pzAt s 25)).isSome = true
    · rw [if_pos q2] at hm; exact hm
    · simpa using q2
  obtain ⟨-, hpz⟩ := bdE_full hbd
  have hdig : (msAt s).dig.size = 16 := by
    show ((bsAt s 73 16).toArray).size = 16
    unfold bsAt
    rw [List.size_toArray, List.length_take, List.length_drop]
    have : s.data.toList.length = s.size := by simp
    omega
  have hname : (msAt s).name.size ≤ 32 := by
    show ((Lib.trimRightB (bsAt s 39 32) 0).toArray).size ≤ 32
    rw [List.size_toArray]
    have h3 := trim_len (bsAt s 39 32)
    have h4 : (bsAt s 39 32).length ≤ 32 := List.length_take_le 32 _
    omega
  have htz : tz (msAt s).name = false := trim_last (bsAt s 39 32)
  have hc : cntAt s ≤ 64 := by
    unfold okLen at h1
    simp only [Bool.and_eq_true, decide_eq_true_eq] at h1
    unfold cntAt
    omega
  refine ⟨?_, ⟨by_at s 4 3, fun i => byX_lt _ i, fun x hx => ?_⟩, ?_, hname, hdig⟩
  · unfold okMs okMs0 okRp
    rw [insAt_len, decide_eq_true hc, decide_eq_true hname, htz, decide_eq_true hdig]
    show (((3 : Int) == 3) && ((okF (ofF (numAt s 4 1)) && okBd (bpAt s 4 3)) && (true && (!false && ((fitI 2 ((numAt s 71 2 : Nat) : Int) && (true && (fitI 4 ((numAt s 89 4 : Nat) : Int) && (okB (brAt s 93) && fitI 1 ((numAt s 101 1 : Nat) : Int))))) && (true && (insAt s 102 (cntAt s)).all okIns)))))) = true
    rw [okF_of, okBd_at s 4 3 hpz, fit_at, fit_at, fit_at, okB_at]
    have ha : (insAt s 102 (cntAt s)).all okIns = true := by
      rw [List.all_eq_true]
      intro x hx
      unfold insAt at hx
      obtain ⟨j, _, rfl⟩ := List.mem_map.1 hx
      exact okIns_at s _
    rw [ha]
    rfl
  · unfold insAt at hx
    obtain ⟨j, _, rfl⟩ := List.mem_map.1 hx
    exact fun i => byX_lt _ i
  · rw [writeM_len _ _ hname hdig, insAt_len]
    exact h2

end Go.Proofs.YtajbkoggmhgjfaaDoor
