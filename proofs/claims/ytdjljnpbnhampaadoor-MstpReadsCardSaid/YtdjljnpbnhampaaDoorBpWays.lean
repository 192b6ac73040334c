/- What the code's reader makes of a body, beside what the reference's cursor makes of it: plain. -/
import Derived.Test.YtdjljnpbnhampaaDoorRBody
import Derived.Test.YtdjljnpbnhampaaDoorBpAt
namespace Go.Proofs.YtdjljnpbnhampaaDoor
open Go.RowKit
set_option linter.unusedVariables false
set_option linter.unusedSimpArgs false

theorem br_go (l : List UInt8) (st : RSt) (h : st.2.1 = 0) (hn : st.1 + 8 ≤ l.length) : rdBs l 0 st = (st.1 + 8, st.2) ∧ rdB l 0 st = ⟨(beN ((l.drop st.1).take 2) : Int) / 4096 * 4096, (beN ((l.drop st.1).take 2) : Int) % 4096, byX ((l.drop (st.1 + 2)).take 6)⟩ := by
  obtain ⟨a1, a2⟩ := nm_go l st 2 (by decide) (by decide) h (by omega)
  have a1' : rdS1 l 0 st = (st.1 + 2, st.2) := a1
  have a2' : rdN l 0 st = beN ((l.drop st.1).take 2) := a2
  have e := tkN_go l 0 (rdS1 l 0 st) 6 false (by rw [a1']; exact h) (by rw [a1']; show st.1 + 2 + 6 ≤ _; omega) (by simp)
  have e1 : rdBs l 0 st = (st.1 + 8, st.2) := by
    unfold rdBs
    rw [show ((6 : Int)) = ((6 : Nat) : Int) from rfl, e, a1']
  have e2 : rdA l 0 st = (l.drop (st.1 + 2)).take 6 := by
    unfold rdA
    rw [show ((6 : Int)) = ((6 : Nat) : Int) from rfl, e, a1']
  refine ⟨e1, ?_⟩
  unfold rdB
  rw [e1, if_pos h, e2, a2']

theorem br_miss1 (l : List UInt8) (st : RSt) (h : st.2.1 = 0) (hn : ¬ st.1 + 2 ≤ l.length) (hp : st.1 ≤ l.length) : rdBs l 0 st = (st.1, 7, (st.1 : Int)) := by
  have a1 : rdS1 l 0 st = (st.1, 7, (st.1 : Int)) := nm_miss l st 2 (by decide) (by decide) h hn hp
  unfold rdBs
  rw [a1, tkN_bad l 0 _ 6 false (by simp)]

theorem br_miss2 (l : List UInt8) (st : RSt) (h : st.2.1 = 0) (hn : st.1 + 2 ≤ l.length) (hn2 : ¬ st.1 + 8 ≤ l.length) : rdBs l 0 st = (st.1 + 2, 7, ((st.1 + 2 : Nat) : Int)) := by
  have a1 : rdS1 l 0 st = (st.1 + 2, st.2) := (nm_go l st 2 (by decide) (by decide) h hn).1
  have e := tkN_miss l 0 (rdS1 l 0 st) 6 false (by rw [a1]; exact h) (by rw [a1]; show ¬ st.1 + 2 + 6 ≤ _; omega) (by rw [a1]; exact hn) (by simp)
  unfold rdBs
  rw [show ((6 : Int)) = ((6 : Nat) : Int) from rfl, e, a1]
  simp

theorem br_bad (l : List UInt8) (st : RSt) (h : ¬ st.2.1 = 0) : rdBs l 0 st = st := by
  have e1 : rdS1 l 0 st = st := nm_bad l st 2 h
  unfold rdBs
  rw [e1, tkN_bad l 0 st 6 false h]

theorem rp_bad (l : List UInt8) (st : RSt) (h : ¬ st.2.1 = 0) : rpSt l 0 st = st := by
  have e1 : rdS1 l 0 st = st := nm_bad l st 2 h
  have e2 : rdN l 0 st = 0 := rdN_bad l 0 st (by rw [e1]; exact h)
  unfold rpSt
  rw [e1, e2, if_pos (by decide), flR_bad st 2 _ h]

theorem rp_miss (l : List UInt8) (st : RSt) (h : st.2.1 = 0) (hn : ¬ st.1 + 2 ≤ l.length) (hp : st.1 ≤ l.length) : rpSt l 0 st = (st.1, 7, (st.1 : Int)) := by
  have a1 : rdS1 l 0 st = (st.1, 7, (st.1 : Int)) := nm_miss l st 2 (by decide) (by decide) h hn hp
  have e2 : rdN l 0 st = 0 := rdN_bad l 0 st (by rw [a1]; simp)
  unfold rpSt
  rw [a1, e2, if_pos (by decide), flR_bad _ 2 _ (by simp)]

theorem rp_zero (l : List UInt8) (st : RSt) (h : st.2.1 = 0) (hn : st.1 + 2 ≤ l.length) (hz : beN ((l.drop st.1).take 2) % 4096 = 0) : (rpSt l 0 st).2 = (2, (st.1 : Int)) := by
  obtain ⟨a1, a2⟩ := nm_go l st 2 (by decide) (by decide) h hn
  have a1' : rdS1 l 0 st = (st.1 + 2, st.2) := a1
  have a2' : rdN l 0 st = beN ((l.drop st.1).take 2) := a2
  unfold rpSt
  rw [a2', if_pos hz, a1']
  unfold flR
  rw [if_neg (by simpa using h)]
  simp

theorem rp_go (l : List UInt8) (st : RSt) (h : st.2.1 = 0) (hn : st.1 + 2 ≤ l.length) (hz : ¬ beN ((l.drop st.1).take 2) % 4096 = 0) : rpSt l 0 st = (st.1 + 2, st.2) ∧ rpP l 0 st = (beN ((l.drop st.1).take 2) : Int) / 4096 * 16 ∧ rpN l 0 st = (beN ((l.drop st.1).take 2) : Int) % 4096 := by
  obtain ⟨a1, a2⟩ := nm_go l st 2 (by decide) (by decide) h hn
  have a1' : rdS1 l 0 st = (st.1 + 2, st.2) := a1
  have a2' : rdN l 0 st = beN ((l.drop st.1).take 2) := a2
  unfold rpSt rpP rpN
  rw [a2', if_neg hz, if_neg hz, if_neg hz, a1']
  exact ⟨rfl, rfl, rfl⟩

section
variable (l : List UInt8) (st : RSt)

theorem bad8 (h : ¬ (sb8 l 0 st).2.1 = 0) : sb9 l 0 st = sb8 l 0 st := nm_bad l _ 2 h

theorem bad7 (h : ¬ (sb7 l 0 st).2.1 = 0) : sb9 l 0 st = sb7 l 0 st := by
  have e : sb8 l 0 st = sb7 l 0 st := nm_bad l _ 2 h
  rw [bad8 l st (by rw [e]; exact h), e]

theorem bad6 (h : ¬ (sb6 l 0 st).2.1 = 0) : sb9 l 0 st = sb6 l 0 st := by
  have e : sb7 l 0 st = sb6 l 0 st := nm_bad l _ 2 h
  rw [bad7 l st (by rw [e]; exact h), e]

theorem bad5 (h : ¬ (sb5 l 0 st).2.1 = 0) : sb9 l 0 st = sb5 l 0 st := by
  have e : sb6 l 0 st = sb5 l 0 st := nm_bad l _ 2 h
  rw [bad6 l st (by rw [e]; exact h), e]

theorem bad4 (h : ¬ (sb4 l 0 st).2.1 = 0) : sb9 l 0 st = sb4 l 0 st := by
  have e : sb5 l 0 st = sb4 l 0 st := rp_bad l _ h
  rw [bad5 l st (by rw [e]; exact h), e]

theorem bad3 (h : ¬ (sb3 l 0 st).2.1 = 0) : sb9 l 0 st = sb3 l 0 st := by
  have e : sb4 l 0 st = sb3 l 0 st := br_bad l _ h
  rw [bad4 l st (by rw [e]; exact h), e]

theorem bad2 (h : ¬ (sb2 l 0 st).2.1 = 0) : sb9 l 0 st = sb2 l 0 st := by
  have e : sb3 l 0 st = sb2 l 0 st := nm_bad l _ 4 h
  rw [bad3 l st (by rw [e]; exact h), e]

theorem bad1 (h : ¬ (sb1 l 0 st).2.1 = 0) : sb9 l 0 st = sb1 l 0 st := by
  have e : sb2 l 0 st = sb1 l 0 st := br_bad l _ h
  rw [bad2 l st (by rw [e]; exact h), e]
end

/-- Both are one. -/
theorem sb_ways (s : ByteArray) (p : Nat) (hp : p ≤ s.size) (k : Int) :
    (∃ e x, bdE s.size p (pzAt s (p + 21)) = some (e, x) ∧ e ≠ 0 ∧ (sb9 s.data.toList 0 (p, 0, -1)).2 = (e, (x : Int))) ∨
    (bdE s.size p (pzAt s (p + 21)) = none ∧ sb9 s.data.toList 0 (p, 0, -1) = (p + 31, 0, -1) ∧ rbRaw s.data.toList 0 (p, 0, -1) k = bpAt s p k) := by
  have hl : s.data.toList.length = s.size := by simp
  generalize hL : s.data.toList = l at *
  have hbe : ∀ q, beAt s q = beN ((l.drop q).take 2) := fun q => by unfold beAt; rw [hL]
  have hnu : ∀ q n, numAt s q n = beN ((l.drop q).take n) := fun q n => by unfold numAt; rw [hL]
  by_cases q0 : s.size < p + 1
  · refine Or.inl ⟨7, p, by unfold bdE; simp only [if_pos q0], by decide, ?_⟩
    have e : sb1 l 0 (p, 0, -1) = (p, 7, ((p : Nat) : Int)) := by
      have e := nm_miss l (p, 0, -1) 1 (by decide) (by decide) rfl (by show ¬ p + 1 ≤ l.length; omega) (by show p ≤ l.length; omega)
      exact e
    rw [bad1 l _ (by rw [e]; simp), e]
    try rfl
  obtain ⟨e1, v1⟩ := nm_go l (p, 0, -1) 1 (by decide) (by decide) rfl (by show p + 1 ≤ l.length; omega)
  replace e1 : sb1 l 0 (p, 0, -1) = (p + 1, 0, -1) := e1
  by_cases q1 : s.size < p + 3
  · refine Or.inl ⟨7, p + 1, by unfold bdE; simp only [if_neg q0, if_pos q1], by decide, ?_⟩
    have e : sb2 l 0 (p, 0, -1) = (p + 1, 7, ((p + 1 : Nat) : Int)) := by
      have e := br_miss1 l (sb1 l 0 (p, 0, -1)) (by rw [e1]) (by rw [e1]; show ¬ p + 1 + 2 ≤ l.length; omega) (by rw [e1]; show p + 1 ≤ l.length; omega)
      rw [e1] at e
      unfold sb2; rw [e1]; exact e
    rw [bad2 l _ (by rw [e]; simp), e]
    try rfl
  by_cases q3 : s.size < p + 9
  · refine Or.inl ⟨7, p + 3, by unfold bdE; simp only [if_neg q0, if_neg q1, if_pos q3], by decide, ?_⟩
    have e : sb2 l 0 (p, 0, -1) = (p + 3, 7, ((p + 3 : Nat) : Int)) := by
      have e := br_miss2 l (sb1 l 0 (p, 0, -1)) (by rw [e1]) (by rw [e1]; show p + 1 + 2 ≤ l.length; omega) (by rw [e1]; show ¬ p + 1 + 8 ≤ l.length; omega)
      rw [e1] at e
      unfold sb2; rw [e1]; exact e
    rw [bad2 l _ (by rw [e]; simp), e]
    try rfl
  obtain ⟨e2, v2⟩ := br_go l (sb1 l 0 (p, 0, -1)) (by rw [e1]) (by rw [e1]; show p + 1 + 8 ≤ l.length; omega)
  rw [e1] at e2 v2
  replace e2 : sb2 l 0 (p, 0, -1) = (p + 9, 0, -1) := by unfold sb2; rw [e1]; exact e2
  by_cases q9 : s.size < p + 13
  · refine Or.inl ⟨7, p + 9, by unfold bdE; simp only [if_neg q0, if_neg q1, if_neg q3, if_pos q9], by decide, ?_⟩
    have e : sb3 l 0 (p, 0, -1) = (p + 9, 7, ((p + 9 : Nat) : Int)) := by
      have e := nm_miss l (sb2 l 0 (p, 0, -1)) 4 (by decide) (by decide) (by rw [e2]) (by rw [e2]; show ¬ p + 9 + 4 ≤ l.length; omega) (by rw [e2]; show p + 9 ≤ l.length; omega)
      rw [e2] at e
      unfold sb3; rw [e2]; exact e
    rw [bad3 l _ (by rw [e]; simp), e]
    try rfl
  obtain ⟨e3, v3⟩ := nm_go l (sb2 l 0 (p, 0, -1)) 4 (by decide) (by decide) (by rw [e2]) (by rw [e2]; show p + 9 + 4 ≤ l.length; omega)
  rw [e2] at e3 v3
  replace e3 : sb3 l 0 (p, 0, -1) = (p + 13, 0, -1) := by unfold sb3; rw [e2]; exact e3
  by_cases q13 : s.size < p + 15
  · refine Or.inl ⟨7, p + 13, by unfold bdE; simp only [if_neg q0, if_neg q1, if_neg q3, if_neg q9, if_pos q13], by decide, ?_⟩
    have e : sb4 l 0 (p, 0, -1) = (p + 13, 7, ((p + 13 : Nat) : Int)) := by
      have e := br_miss1 l (sb3 l 0 (p, 0, -1)) (by rw [e3]) (by rw [e3]; show ¬ p + 13 + 2 ≤ l.length; omega) (by rw [e3]; show p + 13 ≤ l.length; omega)
      rw [e3] at e
      unfold sb4; rw [e3]; exact e
    rw [bad4 l _ (by rw [e]; simp), e]
    try rfl
  by_cases q15 : s.size < p + 21
  · refine Or.inl ⟨7, p + 15, by unfold bdE; simp only [if_neg q0, if_neg q1, if_neg q3, if_neg q9, if_neg q13, if_pos q15], by decide, ?_⟩
    have e : sb4 l 0 (p, 0, -1) = (p + 15, 7, ((p + 15 : Nat) : Int)) := by
      have e := br_miss2 l (sb3 l 0 (p, 0, -1)) (by rw [e3]) (by rw [e3]; show p + 13 + 2 ≤ l.length; omega) (by rw [e3]; show ¬ p + 13 + 8 ≤ l.length; omega)
      rw [e3] at e
      unfold sb4; rw [e3]; exact e
    rw [bad4 l _ (by rw [e]; simp), e]
    try rfl
  obtain ⟨e4, v4⟩ := br_go l (sb3 l 0 (p, 0, -1)) (by rw [e3]) (by rw [e3]; show p + 13 + 8 ≤ l.length; omega)
  rw [e3] at e4 v4
  replace e4 : sb4 l 0 (p, 0, -1) = (p + 21, 0, -1) := by unfold sb4; rw [e3]; exact e4
  by_cases q21 : s.size < p + 23
  · refine Or.inl ⟨7, p + 21, by unfold bdE; simp only [if_neg q0, if_neg q1, if_neg q3, if_neg q9, if_neg q13, if_neg q15, if_pos q21], by decide, ?_⟩
    have e : sb5 l 0 (p, 0, -1) = (p + 21, 7, ((p + 21 : Nat) : Int)) := by
      have e := rp_miss l (sb4 l 0 (p, 0, -1)) (by rw [e4]) (by rw [e4]; show ¬ p + 21 + 2 ≤ l.length; omega) (by rw [e4]; show p + 21 ≤ l.length; omega)
      rw [e4] at e
      unfold sb5; rw [e4]; exact e
    rw [bad5 l _ (by rw [e]; simp), e]
    try rfl
  by_cases qz : pzAt s (p + 21) = true
  · refine Or.inl ⟨2, p + 21, by unfold bdE; simp only [if_neg q0, if_neg q1, if_neg q3, if_neg q9, if_neg q13, if_neg q15, if_neg q21, if_pos qz], by decide, ?_⟩
    have hz : beN ((l.drop (p + 21)).take 2) % 4096 = 0 := by unfold pzAt at qz; rw [beq_iff_eq, hbe] at qz; exact qz
    have e := rp_zero l (sb4 l 0 (p, 0, -1)) (by rw [e4]) (by rw [e4]; show p + 21 + 2 ≤ l.length; omega) (by rw [e4]; exact hz)
    rw [e4] at e
    have e5 : (sb5 l 0 (p, 0, -1)).2 = (2, ((p + 21 : Nat) : Int)) := by unfold sb5; rw [e4]; exact e
    rw [bad5 l _ (by rw [e5]; simp), e5]
  have hz : ¬ beN ((l.drop (p + 21)).take 2) % 4096 = 0 := by unfold pzAt at qz; rw [beq_iff_eq, hbe] at qz; exact qz
  obtain ⟨e5, v5, u5⟩ := rp_go l (sb4 l 0 (p, 0, -1)) (by rw [e4]) (by rw [e4]; show p + 21 + 2 ≤ l.length; omega) (by rw [e4]; exact hz)
  rw [e4] at e5 v5 u5
  replace e5 : sb5 l 0 (p, 0, -1) = (p + 23, 0, -1) := by unfold sb5; rw [e4]; exact e5
  by_cases q23 : s.size < p + 25
  · refine Or.inl ⟨7, p + 23, by unfold bdE; simp only [if_neg q0, if_neg q1, if_neg q3, if_neg q9, if_neg q13, if_neg q15, if_neg q21, if_neg qz, if_pos q23], by decide, ?_⟩
    have e : sb6 l 0 (p, 0, -1) = (p + 23, 7, ((p + 23 : Nat) : Int)) := by
      have e := nm_miss l (sb5 l 0 (p, 0, -1)) 2 (by decide) (by decide) (by rw [e5]) (by rw [e5]; show ¬ p + 23 + 2 ≤ l.length; omega) (by rw [e5]; show p + 23 ≤ l.length; omega)
      rw [e5] at e
      unfold sb6; rw [e5]; exact e
    rw [bad6 l _ (by rw [e]; simp), e]
    try rfl
  obtain ⟨e6, v6⟩ := nm_go l (sb5 l 0 (p, 0, -1)) 2 (by decide) (by decide) (by rw [e5]) (by rw [e5]; show p + 23 + 2 ≤ l.length; omega)
  rw [e5] at e6 v6
  replace e6 : sb6 l 0 (p, 0, -1) = (p + 25, 0, -1) := by unfold sb6; rw [e5]; exact e6
  by_cases q25 : s.size < p + 27
  · refine Or.inl ⟨7, p + 25, by unfold bdE; simp only [if_neg q0, if_neg q1, if_neg q3, if_neg q9, if_neg q13, if_neg q15, if_neg q21, if_neg qz, if_neg q23, if_pos q25], by decide, ?_⟩
    have e : sb7 l 0 (p, 0, -1) = (p + 25, 7, ((p + 25 : Nat) : Int)) := by
      have e := nm_miss l (sb6 l 0 (p, 0, -1)) 2 (by decide) (by decide) (by rw [e6]) (by rw [e6]; show ¬ p + 25 + 2 ≤ l.length; omega) (by rw [e6]; show p + 25 ≤ l.length; omega)
      rw [e6] at e
      unfold sb7; rw [e6]; exact e
    rw [bad7 l _ (by rw [e]; simp), e]
    try rfl
  obtain ⟨e7, v7⟩ := nm_go l (sb6 l 0 (p, 0, -1)) 2 (by decide) (by decide) (by rw [e6]) (by rw [e6]; show p + 25 + 2 ≤ l.length; omega)
  rw [e6] at e7 v7
  replace e7 : sb7 l 0 (p, 0, -1) = (p + 27, 0, -1) := by unfold sb7; rw [e6]; exact e7
  by_cases q27 : s.size < p + 29
  · refine Or.inl ⟨7, p + 27, by unfold bdE; simp only [if_neg q0, if_neg q1, if_neg q3, if_neg q9, if_neg q13, if_neg q15, if_neg q21, if_neg qz, if_neg q23, if_neg q25, if_pos q27], by decide, ?_⟩
    have e : sb8 l 0 (p, 0, -1) = (p + 27, 7, ((p + 27 : Nat) : Int)) := by
      have e := nm_miss l (sb7 l 0 (p, 0, -1)) 2 (by decide) (by decide) (by rw [e7]) (by rw [e7]; show ¬ p + 27 + 2 ≤ l.length; omega) (by rw [e7]; show p + 27 ≤ l.length; omega)
      rw [e7] at e
      unfold sb8; rw [e7]; exact e
    rw [bad8 l _ (by rw [e]; simp), e]
    try rfl
  obtain ⟨e8, v8⟩ := nm_go l (sb7 l 0 (p, 0, -1)) 2 (by decide) (by decide) (by rw [e7]) (by rw [e7]; show p + 27 + 2 ≤ l.length; omega)
  rw [e7] at e8 v8
  replace e8 : sb8 l 0 (p, 0, -1) = (p + 29, 0, -1) := by unfold sb8; rw [e7]; exact e8
  by_cases q29 : s.size < p + 31
  · refine Or.inl ⟨7, p + 29, by unfold bdE; simp only [if_neg q0, if_neg q1, if_neg q3, if_neg q9, if_neg q13, if_neg q15, if_neg q21, if_neg qz, if_neg q23, if_neg q25, if_neg q27, if_pos q29], by decide, ?_⟩
    have e : sb9 l 0 (p, 0, -1) = (p + 29, 7, ((p + 29 : Nat) : Int)) := by
      have e := nm_miss l (sb8 l 0 (p, 0, -1)) 2 (by decide) (by decide) (by rw [e8]) (by rw [e8]; show ¬ p + 29 + 2 ≤ l.length; omega) (by rw [e8]; show p + 29 ≤ l.length; omega)
      rw [e8] at e
      unfold sb9; rw [e8]; exact e
    rw [e]
    try rfl
  obtain ⟨e9, v9⟩ := nm_go l (sb8 l 0 (p, 0, -1)) 2 (by decide) (by decide) (by rw [e8]) (by rw [e8]; show p + 29 + 2 ≤ l.length; omega)
  rw [e8] at e9 v9
  replace e9 : sb9 l 0 (p, 0, -1) = (p + 31, 0, -1) := by unfold sb9; rw [e8]; exact e9
  refine Or.inr ⟨by unfold bdE; simp only [if_neg q0, if_neg q1, if_neg q3, if_neg q9, if_neg q13, if_neg q15, if_neg q21, if_neg qz, if_neg q23, if_neg q25, if_neg q27, if_neg q29], e9, ?_⟩
  unfold rbRaw bpAt
  rw [e1, e2, e3, e4, e5, e6, e7, e8]
  have w1 : nmV l 0 (p, 0, -1) 1 = numAt s p 1 := by rw [hnu]; exact v1
  have w2 : rdB l 0 (p + 1, 0, -1) = brAt s (p + 1) := by unfold brAt; rw [hbe, hL]; exact v2
  have w3 : nmV l 0 (p + 9, 0, -1) 4 = numAt s (p + 9) 4 := by rw [hnu]; exact v3
  have w4 : rdB l 0 (p + 13, 0, -1) = brAt s (p + 13) := by unfold brAt; rw [hbe, hL]; exact v4
  have w6 : nmV l 0 (p + 23, 0, -1) 2 = numAt s (p + 23) 2 := by rw [hnu]; exact v6
  have w7 : nmV l 0 (p + 25, 0, -1) 2 = numAt s (p + 25) 2 := by rw [hnu]; exact v7
  have w8 : nmV l 0 (p + 27, 0, -1) 2 = numAt s (p + 27) 2 := by rw [hnu]; exact v8
  have w9 : nmV l 0 (p + 29, 0, -1) 2 = numAt s (p + 29) 2 := by rw [hnu]; exact v9
  rw [w1, w2, w3, w4, v5, u5, w6, w7, w8, w9, hbe]

end Go.Proofs.YtdjljnpbnhampaaDoor
