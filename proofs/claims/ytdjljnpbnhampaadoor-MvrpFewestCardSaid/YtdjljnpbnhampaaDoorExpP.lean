/- Reading in steps, plainly: bytes that are always the same, bytes that are passed over, numbers. -/
import Derived.Test.YtdjljnpbnhampaaDoorNumK
import Derived.Test.YtdjljnpbnhampaaDoorLeadT
namespace Go.Proofs.YtdjljnpbnhampaaDoor
open Go.RowKit
set_option linter.unusedVariables false
set_option linter.unusedSimpArgs false

/-- Behind bytes that are always the same. -/
def exS (l : List UInt8) (st : RSt) (z : List UInt8) : RSt := if (tkN l 0 st (z.length : Nat) false).1 = z then (tkN l 0 st (z.length : Nat) false).2 else flR (tkN l 0 st (z.length : Nat) false).2 3 (st.1 : Int)

theorem exS_le (l : List UInt8) (st : RSt) (z : List UInt8) (h : st.1 ≤ l.length) : (exS l st z).1 ≤ l.length := by
  unfold exS
  split
  · exact tkN_le l 0 st _ false h
  · exact flR_le l _ _ _ (tkN_le l 0 st _ false h)

theorem ex_go (l : List UInt8) (st : RSt) (z : List UInt8) (h : st.2.1 = 0) (hn : st.1 + z.length ≤ l.length) (hz : (l.drop st.1).take z.length = z) : exS l st z = (st.1 + z.length, st.2) := by
  have e := tkN_go l 0 st z.length false h hn (by simp)
  unfold exS
  rw [e, if_pos hz]

theorem ex_form (l : List UInt8) (st : RSt) (z : List UInt8) (h : st.2.1 = 0) (hn : st.1 + z.length ≤ l.length) (hz : ¬ (l.drop st.1).take z.length = z) : (exS l st z).2 = (3, (st.1 : Int)) := by
  have e := tkN_go l 0 st z.length false h hn (by simp)
  unfold exS
  rw [e, if_neg hz]
  unfold flR
  rw [if_neg (by simpa using h)]

theorem ex_miss (l : List UInt8) (st : RSt) (z : List UInt8) (hz : z ≠ []) (h : st.2.1 = 0) (hn : ¬ st.1 + z.length ≤ l.length) (hp : st.1 ≤ l.length) : exS l st z = (st.1, 7, (st.1 : Int)) := by
  have e := tkN_miss l 0 st z.length false h hn hp (by simp)
  unfold exS
  rw [e, if_neg (fun q => hz q.symm), flR_bad _ 3 _ (by simp)]
  simp

theorem ex_bad (l : List UInt8) (st : RSt) (z : List UInt8) (hz : z ≠ []) (h : ¬ st.2.1 = 0) : exS l st z = st := by
  unfold exS
  rw [tkN_bad l 0 st _ false h, if_neg (fun q => hz q.symm), flR_bad st 3 _ h]

/-- This text, or another one as long. -/
def exS2 (l : List UInt8) (st : RSt) (z y : List UInt8) : RSt := if (tkN l 0 st (z.length : Nat) false).1 = z ∨ (tkN l 0 st (z.length : Nat) false).1 = y then (tkN l 0 st (z.length : Nat) false).2 else flR (tkN l 0 st (z.length : Nat) false).2 3 (st.1 : Int)

/-- What they are. -/
def exV2 (l : List UInt8) (st : RSt) (z y : List UInt8) : List UInt8 := if (tkN l 0 st (z.length : Nat) false).1 = z ∨ (tkN l 0 st (z.length : Nat) false).1 = y then (tkN l 0 st (z.length : Nat) false).1 else []

theorem exS2_le (l : List UInt8) (st : RSt) (z y : List UInt8) (h : st.1 ≤ l.length) : (exS2 l st z y).1 ≤ l.length := by
  unfold exS2
  split
  · exact tkN_le l 0 st _ false h
  · exact flR_le l _ _ _ (tkN_le l 0 st _ false h)

inductive Stp where
  | want (z : List UInt8)
  | alt (z y : List UInt8)
  | eat (n : Nat)
  | num (n : Nat)

/-- What is wrong first, and where. -/
def runP (l : List UInt8) : List Stp → Nat → Option (Int × Nat)
  | [], _ => none
  | .want z :: r, p => if l.length < p + z.length then some (7, p) else if (l.drop p).take z.length = z then runP l r (p + z.length) else some (3, p)
  | .alt z y :: r, p => if l.length < p + z.length then some (7, p) else if (l.drop p).take z.length = z ∨ (l.drop p).take z.length = y then runP l r (p + z.length) else some (3, p)
  | .eat n :: r, p => if l.length < p + n then some (7, p) else runP l r (p + n)
  | .num n :: r, p => if l.length < p + n then some (7, p) else runP l r (p + n)

/-- How many bytes. -/
def lenP : List Stp → Nat
  | [] => 0
  | .want z :: r => z.length + lenP r
  | .alt z y :: r => z.length + lenP r
  | .eat n :: r => n + lenP r
  | .num n :: r => n + lenP r

/-- What a reader notes. -/
def runS (l : List UInt8) : List Stp → RSt → RSt
  | [], st => st
  | .want z :: r, st => runS l r (exS l st z)
  | .alt z y :: r, st => runS l r (exS2 l st z y)
  | .eat n :: r, st => runS l r (tkN l 0 st (n : Nat) false).2
  | .num n :: r, st => runS l r (nmS l 0 st (n : Nat))

def okP : List Stp → Bool
  | [] => true
  | .want z :: r => !z.isEmpty && okP r
  | .alt z y :: r => !z.isEmpty && (!y.isEmpty && okP r)
  | .eat n :: r => okP r
  | .num n :: r => decide (1 ≤ n) && (decide (n ≤ 7) && okP r)

theorem runS_app (l : List UInt8) (a b : List Stp) (st : RSt) : runS l (a ++ b) st = runS l b (runS l a st) := by
  induction a generalizing st with
  | nil => rfl
  | cons x a ih => cases x <;> exact ih _

theorem runS_le (l : List UInt8) (r : List Stp) (st : RSt) (h : st.1 ≤ l.length) : (runS l r st).1 ≤ l.length := by
  induction r generalizing st with
  | nil => exact h
  | cons x r ih =>
    cases x with
    | want z => exact ih _ (exS_le l st z h)
    | alt z y => exact ih _ (exS2_le l st z y h)
    | eat n => exact ih _ (tkN_le l 0 st _ false h)
    | num n => exact ih _ (nmS_le l 0 st _ h)

/-- Once noted, always noted. -/
theorem runS_bad (l : List UInt8) (r : List Stp) (hr : okP r = true) (st : RSt) (h : ¬ st.2.1 = 0) : runS l r st = st := by
  induction r with
  | nil => rfl
  | cons x r ih =>
    cases x with
    | want z =>
      simp only [okP, Bool.and_eq_true, Bool.not_eq_true', List.isEmpty_eq_false_iff] at hr
      show runS l r (exS l st z) = st
      rw [ex_bad l st z hr.1 h]
      exact ih hr.2
    | alt z y =>
      simp only [okP, Bool.and_eq_true, Bool.not_eq_true', List.isEmpty_eq_false_iff] at hr
      show runS l r (exS2 l st z y) = st
      have e : exS2 l st z y = st := by
        unfold exS2
        rw [tkN_bad l 0 st _ false h, if_neg (fun q => q.elim (fun q => hr.1 q.symm) (fun q => hr.2.1 q.symm)), flR_bad st 3 _ h]
      rw [e]
      exact ih hr.2.2
    | eat n =>
      show runS l r (tkN l 0 st (n : Nat) false).2 = st
      rw [tkN_bad l 0 st _ false h]
      exact ih hr
    | num n =>
      simp only [okP, Bool.and_eq_true] at hr
      show runS l r (nmS l 0 st (n : Nat)) = st
      rw [nm_bad l st _ h]
      exact ih hr.2.2

/-- What a reader notes is what is wrong. -/
theorem runS_spec (l : List UInt8) (r : List Stp) (hr : okP r = true) (st : RSt) (h : st.2.1 = 0) (hp : st.1 ≤ l.length) :
    (runP l r st.1 = none ∧ runS l r st = (st.1 + lenP r, st.2) ∧ st.1 + lenP r ≤ l.length) ∨ (∃ e x, runP l r st.1 = some (e, x) ∧ e ≠ 0 ∧ (runS l r st).2 = (e, (x : Int))) := by
  have bad : ∀ (r : List Stp) (st' : RSt) (e : Int) (x : Nat), okP r = true → st'.2 = (e, (x : Int)) → e ≠ 0 → (runS l r st').2 = (e, (x : Int)) := by
    intro r st' e x hr h2 he
    rw [runS_bad l r hr st' (by rw [h2]; exact he)]
    exact h2
  induction r generalizing st with
  | nil => exact Or.inl ⟨rfl, rfl, hp⟩
  | cons x r ih =>
    cases x with
    | want z =>
      simp only [okP, Bool.and_eq_true, Bool.not_eq_true', List.isEmpty_eq_false_iff] at hr
      by_cases c : l.length < st.1 + z.length
      · refine Or.inr ⟨7, st.1, by simp only [runP]; rw [if_pos c], by decide, ?_⟩
        exact bad r _ 7 st.1 hr.2 (by rw [ex_miss l st z hr.1 h (by omega) hp]) (by decide)
      · by_cases q : (l.drop st.1).take z.length = z
        · have e := ex_go l st z h (by omega) q
          have i := ih hr.2 (exS l st z) (by rw [e]; exact h) (by rw [e]; show st.1 + z.length ≤ _; omega)
          have e1 : runP l (.want z :: r) st.1 = runP l r (exS l st z).1 := by simp only [runP]; rw [if_neg c, if_pos q, e]
          have e2 : runS l (.want z :: r) st = runS l r (exS l st z) := rfl
          rw [e1, e2]
          rcases i with ⟨i1, i2, i3⟩ | i
          · refine Or.inl ⟨i1, ?_, ?_⟩
            · rw [i2, e]
              show (st.1 + z.length + lenP r, st.2) = (st.1 + (z.length + lenP r), st.2)
              rw [Nat.add_assoc]
            · rw [e] at i3
              have i4 : st.1 + z.length + lenP r ≤ l.length := i3
              show st.1 + (z.length + lenP r) ≤ _
              omega
          · exact Or.inr i
        · refine Or.inr ⟨3, st.1, by simp only [runP]; rw [if_neg c, if_neg q], by decide, ?_⟩
          exact bad r _ 3 st.1 hr.2 (ex_form l st z h (by omega) q) (by decide)
    | alt z y =>
      simp only [okP, Bool.and_eq_true, Bool.not_eq_true', List.isEmpty_eq_false_iff] at hr
      by_cases c : l.length < st.1 + z.length
      · refine Or.inr ⟨7, st.1, by simp only [runP]; rw [if_pos c], by decide, ?_⟩
        refine bad r _ 7 st.1 hr.2.2 ?_ (by decide)
        have e := tkN_miss l 0 st z.length false h (by omega) hp (by simp)
        unfold exS2
        rw [e, if_neg (fun q => q.elim (fun q => hr.1 q.symm) (fun q => hr.2.1 q.symm)), flR_bad _ 3 _ (by simp)]
        simp
      · have e0 := tkN_go l 0 st z.length false h (by omega) (by simp)
        by_cases q : (l.drop st.1).take z.length = z ∨ (l.drop st.1).take z.length = y
        · have e : exS2 l st z y = (st.1 + z.length, st.2) := by
            unfold exS2
            rw [e0, if_pos q]
          have i := ih hr.2.2 (exS2 l st z y) (by rw [e]; exact h) (by rw [e]; show st.1 + z.length ≤ _; omega)
          have e1 : runP l (.alt z y :: r) st.1 = runP l r (exS2 l st z y).1 := by simp only [runP]; rw [if_neg c, if_pos q, e]
          have e2 : runS l (.alt z y :: r) st = runS l r (exS2 l st z y) := rfl
          rw [e1, e2]
          rcases i with ⟨i1, i2, i3⟩ | i
          · refine Or.inl ⟨i1, ?_, ?_⟩
            · rw [i2, e]
              show (st.1 + z.length + lenP r, st.2) = (st.1 + (z.length + lenP r), st.2)
              rw [Nat.add_assoc]
            · rw [e] at i3
              have i4 : st.1 + z.length + lenP r ≤ l.length := i3
              show st.1 + (z.length + lenP r) ≤ _
              omega
          · exact Or.inr i
        · refine Or.inr ⟨3, st.1, by simp only [runP]; rw [if_neg c, if_neg q], by decide, ?_⟩
          refine bad r _ 3 st.1 hr.2.2 ?_ (by decide)
          unfold exS2
          rw [e0, if_neg q]
          unfold flR
          rw [if_neg (by simpa using h)]
    | eat n =>
      have hr' : okP r = true := hr
      by_cases c : l.length < st.1 + n
      · refine Or.inr ⟨7, st.1, by simp only [runP]; rw [if_pos c], by decide, ?_⟩
        refine bad r _ 7 st.1 hr' ?_ (by decide)
        rw [tkN_miss l 0 st n false h (by omega) hp (by simp)]
        simp
      · have e : (tkN l 0 st (n : Nat) false).2 = (st.1 + n, st.2) := by rw [tkN_go l 0 st n false h (by omega) (by simp)]
        have i := ih hr' (tkN l 0 st (n : Nat) false).2 (by rw [e]; exact h) (by rw [e]; show st.1 + n ≤ _; omega)
        have e1 : runP l (.eat n :: r) st.1 = runP l r (tkN l 0 st (n : Nat) false).2.1 := by simp only [runP]; rw [if_neg c, e]
        have e2 : runS l (.eat n :: r) st = runS l r (tkN l 0 st (n : Nat) false).2 := rfl
        rw [e1, e2]
        rcases i with ⟨i1, i2, i3⟩ | i
        · refine Or.inl ⟨i1, ?_, ?_⟩
          · rw [i2, e]
            show (st.1 + n + lenP r, st.2) = (st.1 + (n + lenP r), st.2)
            rw [Nat.add_assoc]
          · rw [e] at i3
            have i4 : st.1 + n + lenP r ≤ l.length := i3
            show st.1 + (n + lenP r) ≤ _
            omega
        · exact Or.inr i
    | num n =>
      simp only [okP, Bool.and_eq_true, decide_eq_true_eq] at hr
      by_cases c : l.length < st.1 + n
      · refine Or.inr ⟨7, st.1, by simp only [runP]; rw [if_pos c], by decide, ?_⟩
        exact bad r _ 7 st.1 hr.2.2 (by rw [nm_miss l st n hr.1 (by omega) h (by omega) hp]) (by decide)
      · have e : nmS l 0 st (n : Nat) = (st.1 + n, st.2) := (nm_go l st n hr.1 (by omega) h (by omega)).1
        have i := ih hr.2.2 (nmS l 0 st (n : Nat)) (by rw [e]; exact h) (by rw [e]; show st.1 + n ≤ _; omega)
        have e1 : runP l (.num n :: r) st.1 = runP l r (nmS l 0 st (n : Nat)).1 := by simp only [runP]; rw [if_neg c, e]
        have e2 : runS l (.num n :: r) st = runS l r (nmS l 0 st (n : Nat)) := rfl
        rw [e1, e2]
        rcases i with ⟨i1, i2, i3⟩ | i
        · refine Or.inl ⟨i1, ?_, ?_⟩
          · rw [i2, e]
            show (st.1 + n + lenP r, st.2) = (st.1 + (n + lenP r), st.2)
            rw [Nat.add_assoc]
          · rw [e] at i3
            have i4 : st.1 + n + lenP r ≤ l.length := i3
            show st.1 + (n + lenP r) ≤ _
            omega
        · exact Or.inr i

/-- What is wrong first in all of it, behind which only noughts stand. -/
def allP (l : List UInt8) (r : List Stp) : Option (Int × Nat) :=
  match runP l r 0 with
  | some x => some x
  | none => if lenP r + lead (l.drop (lenP r)) = l.length then none else some (15, lenP r + lead (l.drop (lenP r)))

theorem all_ans (l : List UInt8) (r : List Stp) (hr : okP r = true) :
    (allP l r = none ∧ runP l r 0 = none ∧ lenP r ≤ l.length ∧ runS l r (0, 0, -1) = (lenP r, 0, -1) ∧ zrR l 0 (runS l r (0, 0, -1)) = (true, l.length, 0, -1)) ∨
    (∃ e x, allP l r = some (e, x) ∧ e ≠ 0 ∧ (zrR l 0 (runS l r (0, 0, -1))).1 = false ∧ (zrR l 0 (runS l r (0, 0, -1))).2.2 = (e, (x : Int))) := by
  rcases runS_spec l r hr (0, 0, -1) rfl (Nat.zero_le _) with ⟨h1, h2, h3⟩ | ⟨e, x, h1, h2, h3⟩
  · have h1' : runP l r 0 = none := h1
    rw [Nat.zero_add] at h2 h3
    by_cases c : lenP r + lead (l.drop (lenP r)) = l.length
    · refine Or.inl ⟨by unfold allP; rw [h1']; exact if_pos c, h1', h3, h2, ?_⟩
      rw [h2]
      unfold zrR
      rw [if_neg (by simp), if_pos c]
    · refine Or.inr ⟨15, lenP r + lead (l.drop (lenP r)), by unfold allP; rw [h1']; exact if_neg c, by decide, ?_, ?_⟩
      · rw [h2]
        unfold zrR
        rw [if_neg (by simp), if_neg c]
      · rw [h2]
        unfold zrR
        rw [if_neg (by simp), if_neg c]
        simp
  · have h1' : runP l r 0 = some (e, x) := h1
    have hb : zrR l 0 (runS l r (0, 0, -1)) = (false, runS l r (0, 0, -1)) := zrR_bad _ _ _ (by rw [h3]; exact h2)
    exact Or.inr ⟨e, x, by unfold allP; rw [h1'], h2, by rw [hb], by rw [hb]; exact h3⟩

/-- One step of it. -/
theorem runP_want {l z : List UInt8} {r : List Stp} {p : Nat} (h : p + z.length ≤ l.length) (hz : (l.drop p).take z.length = z) : runP l (.want z :: r) p = runP l r (p + z.length) := by
  simp only [runP]; rw [if_neg (by omega), if_pos hz]

theorem runP_wantM {l z : List UInt8} {r : List Stp} {p : Nat} (h : ¬ p + z.length ≤ l.length) : runP l (.want z :: r) p = some (7, p) := by
  simp only [runP]; rw [if_pos (by omega)]

theorem runP_wantF {l z : List UInt8} {r : List Stp} {p : Nat} (h : p + z.length ≤ l.length) (hz : ¬ (l.drop p).take z.length = z) : runP l (.want z :: r) p = some (3, p) := by
  simp only [runP]; rw [if_neg (by omega), if_neg hz]

theorem runP_alt {l z y : List UInt8} {r : List Stp} {p : Nat} (h : p + z.length ≤ l.length) (hz : (l.drop p).take z.length = z ∨ (l.drop p).take z.length = y) : runP l (.alt z y :: r) p = runP l r (p + z.length) := by
  simp only [runP]; rw [if_neg (by omega), if_pos hz]

theorem runP_altM {l z y : List UInt8} {r : List Stp} {p : Nat} (h : ¬ p + z.length ≤ l.length) : runP l (.alt z y :: r) p = some (7, p) := by
  simp only [runP]; rw [if_pos (by omega)]

theorem runP_altF {l z y : List UInt8} {r : List Stp} {p : Nat} (h : p + z.length ≤ l.length) (hz : ¬ ((l.drop p).take z.length = z ∨ (l.drop p).take z.length = y)) : runP l (.alt z y :: r) p = some (3, p) := by
  simp only [runP]; rw [if_neg (by omega), if_neg hz]

theorem runP_eat {l : List UInt8} {r : List Stp} {p n : Nat} (h : p + n ≤ l.length) : runP l (.eat n :: r) p = runP l r (p + n) := by
  simp only [runP]; rw [if_neg (by omega)]

theorem runP_eatM {l : List UInt8} {r : List Stp} {p n : Nat} (h : ¬ p + n ≤ l.length) : runP l (.eat n :: r) p = some (7, p) := by
  simp only [runP]; rw [if_pos (by omega)]

theorem runP_num {l : List UInt8} {r : List Stp} {p n : Nat} (h : p + n ≤ l.length) : runP l (.num n :: r) p = runP l r (p + n) := by
  simp only [runP]; rw [if_neg (by omega)]

theorem runP_numM {l : List UInt8} {r : List Stp} {p n : Nat} (h : ¬ p + n ≤ l.length) : runP l (.num n :: r) p = some (7, p) := by
  simp only [runP]; rw [if_pos (by omega)]

theorem allP_some {l : List UInt8} {r : List Stp} {e : Int} {x : Nat} (h : runP l r 0 = some (e, x)) : allP l r = some (e, x) := by unfold allP; rw [h]

theorem allP_none {l : List UInt8} {r : List Stp} (h : runP l r 0 = none) : allP l r = if lenP r + lead (l.drop (lenP r)) = l.length then none else some (15, lenP r + lead (l.drop (lenP r))) := by unfold allP; rw [h]

/-- Behind p only noughts, or another byte at m. -/
theorem lead_ways (s : ByteArray) (p : Nat) (hp : p ≤ s.size) :
    ((∀ (j : Nat) b, p ≤ j → s.data.toList[j]? = some b → b = 0) ∧ p + lead (s.data.toList.drop p) = s.data.toList.length) ∨
    (∃ m, ∃ hm : m < s.size, p ≤ m ∧ (∀ (j : Nat) b, p ≤ j → j < m → s.data.toList[j]? = some b → b = 0) ∧ s[m] ≠ 0 ∧ p + lead (s.data.toList.drop p) = m) := by
  rcases zrR_ways s p (-1) hp with ⟨h, e⟩ | ⟨m, hm, h1, h2, h3, e⟩
  · refine Or.inl ⟨h, ?_⟩
    by_cases c : p + lead (s.data.toList.drop p) = s.data.toList.length
    · exact c
    · unfold zrR at e
      rw [if_neg (by simp), if_neg c] at e
      simp at e
  · refine Or.inr ⟨m, hm, h1, h2, h3, ?_⟩
    by_cases c : p + lead (s.data.toList.drop p) = s.data.toList.length
    · unfold zrR at e
      rw [if_neg (by simp), if_pos c] at e
      simp at e
    · unfold zrR at e
      rw [if_neg (by simp), if_neg c] at e
      simp only [Prod.mk.injEq, true_and] at e
      exact e.1

end Go.Proofs.YtdjljnpbnhampaaDoor
