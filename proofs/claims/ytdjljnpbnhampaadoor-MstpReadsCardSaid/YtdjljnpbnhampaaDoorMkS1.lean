/- Texts one behind the other. Reading in steps, plainly: bytes that are always the same, bytes that are passed over, numbers. wire.Reader.Expect in every state of a reader; slices.Contains of no and of one text. switchyardlaw.placed: an error that is this one, at this place. (apart: ErrAs, ErrAs.below, ErrAs.nil) readCount, readInst at every state of a reader. What the code's reader makes of a message of many trees, beside what lies there: plain. 12.2, 12.3: what is written is read; what is read is right: plain. Rows of instances of one's own: made by append. An instance comes behind a row of one's own: append, in a region that draws. A region that draws its order: a load that must come before the region's own store to the same place. Ahead of an operation of D a fact S holds at every world; from it on nothing is asked. mstp.Read at every text. mstp.Read at every text. mstp.Read of what is written, and of anything. The reference's cursor: what is thrown, eaten, counted, asked for. The reference's Fault; what was thrown is caught. The reference's names of bridges and ports, at a cursor. The reference's cursor.body, everywhere. The reference's MstRead: its door. -/
import Derived.Test.YtdjljnpbnhampaaDoorNumK
import Derived.Test.YtdjljnpbnhampaaDoorLeadT
import Derived.Test.YtdjljnpbnhampaaDoorPrReadG
import Derived.Test.YtdjljnpbnhampaaDoorBlk
import Derived.Test.YtdjljnpbnhampaaDoorFlt
import Derived.Test.YtdjljnpbnhampaaDoorRBody
import Derived.Test.YtdjljnpbnhampaaDoorBpAt
import Derived.Test.YtdjljnpbnhampaaDoorMs
import Derived.Test.YtdjljnpbnhampaaDoorBpWays
import Derived.Test.YtdjljnpbnhampaaDoorBpAtM
import Derived.Lib.TrimByte
import Derived.Test.YtdjljnpbnhampaaDoorStOp
import Derived.Deep.AppendLies
import Derived.Deep.RegionHeld3
import Derived.Great.BuildSlice
import Derived.Test.YtdjljnpbnhampaaDoorRdT
import Derived.Test.YtdjljnpbnhampaaDoorShelf
import Derived.Test.YtdjljnpbnhampaaDoorCopyT
import Derived.Lib.BufferWrite
import Derived.BigRegion
import Derived.Defers
import Derived.Recover
import Derived.Test.YtdjljnpbnhampaaDoorPrReadPort
import Derived.Test.YtdjljnpbnhampaaDoorNamesAt
import Derived.Test.YtdjljnpbnhampaaDoorBpOf
namespace Go.Proofs.YtdjljnpbnhampaaDoor
open Go.RowKit
set_option linter.unusedVariables false
set_option linter.unusedSimpArgs false

/-- Behind bytes that are always the same. -/
def exS (l : List UInt8) (st : RSt) (z : List UInt8) : RSt := if (tkN l 0 st (z.length : Nat) false).1 = z then (tkN l 0 st (z.length : Nat) false).2 else flR (tkN l 0 st (z.length : Nat) false).2 3 (st.1 : Int)

theorem exS_le (l : List UInt8) (st : RSt) (z : List UInt8) (h : st.1 ≤ l.length) : (exS l st z).1 ≤ l.length := by
  unfold exS
  split
  · exact tkN_le l 0 st _ false h
  · exact flR_le l _ _ _ (tkN_le l 0 st _ false h)

theorem ex_go (l : List UInt8) (st : RSt) (z : List UInt8) (h : st.2.1 = 0) (hn : st.1 + z.length ≤ l.length) (hz : (l.drop st.1).take z.length = z) : exS l st z = (st.1 + z.length, st.2) := by
  have e := tkN_go l 0 st z.length false h hn (by simp)
  unfold exS
  rw [e, if_pos hz]

theorem ex_form (l : List UInt8) (st : RSt) (z : List UInt8) (h : st.2.1 = 0) (hn : st.1 + z.length ≤ l.length) (hz : ¬ (l.drop st.1).take z.length = z) : (exS l st z).2 = (3, (st.1 : Int)) := by
  have e := tkN_go l 0 st z.length false h hn (by simp)
  unfold exS
  rw [e, if_neg hz]
  unfold flR
  rw [if_neg (by simpa using h)]

theorem ex_miss (l : List UInt8) (st : RSt) (z : List UInt8) (hz : z ≠ []) (h : st.2.1 = 0) (hn : ¬ st.1 + z.length ≤ l.length) (hp : st.1 ≤ l.length) : exS l st z = (st.1, 7, (st.1 : Int)) := by
  have e := tkN_miss l 0 st z.length false h hn hp (by simp)
  unfold exS
  rw [e, if_neg (fun q => hz q.symm), flR_bad _ 3 _ (by simp)]
  simp

theorem ex_bad (l : List UInt8) (st : RSt) (z : List UInt8) (hz : z ≠ []) (h : ¬ st.2.1 = 0) : exS l st z = st := by
  unfold exS
  rw [tkN_bad l 0 st _ false h, if_neg (fun q => hz q.symm), flR_bad st 3 _ h]

/-- This text, or another one as long. -/
def exS2 (l : List UInt8) (st : RSt) (z y : List UInt8) : RSt := if (tkN l 0 st (z.length : Nat) false).1 = z ∨ (tkN l 0 st (z.length : Nat) false).1 = y then (tkN l 0 st (z.length : Nat) false).2 else flR (tkN l 0 st (z.length : Nat) false).2 3 (st.1 : Int)

/-- What they are. -/
def exV2 (l : List UInt8) (st : RSt) (z y : List UInt8) : List UInt8 := if (tkN l 0 st (z.length : Nat) false).1 = z ∨ (tkN l 0 st (z.length : Nat) false).1 = y then (tkN l 0 st (z.length : Nat) false).1 else []

theorem exS2_le (l : List UInt8) (st : RSt) (z y : List UInt8) (h : st.1 ≤ l.length) : (exS2 l st z y).1 ≤ l.length := by
  unfold exS2
  split
  · exact tkN_le l 0 st _ false h
  · exact flR_le l _ _ _ (tkN_le l 0 st _ false h)

inductive Stp where
  | want (z : List UInt8)
  | alt (z y : List UInt8)
  | eat (n : Nat)
  | num (n : Nat)

/-- What is wrong first, and where. -/
def runP (l : List UInt8) : List Stp → Nat → Option (Int × Nat)
  | [], _ => none
  | .want z :: r, p => if l.length < p + z.length then some (7, p) else if (l.drop p).take z.length = z then runP l r (p + z.length) else some (3, p)
  | .alt z y :: r, p => if l.length < p + z.length then some (7, p) else if (l.drop p).take z.length = z ∨ (l.drop p).take z.length = y then runP l r (p + z.length) else some (3, p)
  | .eat n :: r, p => if l.length < p + n then some (7, p) else runP l r (p + n)
  | .num n :: r, p => if l.length < p + n then some (7, p) else runP l r (p + n)

/-- How many bytes. -/
def lenP : List Stp → Nat
  | [] => 0
  | .want z :: r => z.length + lenP r
  | .alt z y :: r => z.length + lenP r
  | .eat n :: r => n + lenP r
  | .num n :: r => n + lenP r

/-- What a reader notes. -/
def runS (l : List UInt8) : List Stp → RSt → RSt
  | [], st => st
  | .want z :: r, st => runS l r (exS l st z)
  | .alt z y :: r, st => runS l r (exS2 l st z y)
  | .eat n :: r, st => runS l r (tkN l 0 st (n : Nat) false).2
  | .num n :: r, st => runS l r (nmS l 0 st (n : Nat))

def okP : List Stp → Bool
  | [] => true
  | .want z :: r => !z.isEmpty && okP r
  | .alt z y :: r => !z.isEmpty && (!y.isEmpty && okP r)
  | .eat n :: r => okP r
  | .num n :: r => decide (1 ≤ n) && (decide (n ≤ 7) && okP r)

theorem runS_app (l : List UInt8) (a b : List Stp) (st : RSt) : runS l (a ++ b) st = runS l b (runS l a st) := by
  induction a generalizing st with
  | nil => rfl
  | cons x a ih => cases x <;> exact ih _

theorem runS_le (l : List UInt8) (r : List Stp) (st : RSt) (h : st.1 ≤ l.length) : (runS l r st).1 ≤ l.length := by
  induction r generalizing st with
  | nil => exact h
  | cons x r ih =>
    cases x with
    | want z => exact ih _ (exS_le l st z h)
    | alt z y => exact ih _ (exS2_le l st z y h)
    | eat n => exact ih _ (tkN_le l 0 st _ false h)
    | num n => exact ih _ (nmS_le l 0 st _ h)

/-- Once noted, always noted. -/
theorem runS_bad (l : List UInt8) (r : List Stp) (hr : okP r = true) (st : RSt) (h : ¬ st.2.1 = 0) : runS l r st = st := by
  induction r with
  | nil => rfl
  | cons x r ih =>
    cases x with
    | want z =>
      simp only [okP, Bool.and_eq_true, Bool.not_eq_true', List.isEmpty_eq_false_iff] at hr
      show runS l r (exS l st z) = st
      rw [ex_bad l st z hr.1 h]
      exact ih hr.2
    | alt z y =>
      simp only [okP, Bool.and_eq_true, Bool.not_eq_true', List.isEmpty_eq_false_iff] at hr
      show runS l r (exS2 l st z y) = st
      have e : exS2 l st z y = st := by
        unfold exS2
        rw [tkN_bad l 0 st _ false h, if_neg (fun q => q.elim (fun q => hr.1 q.symm) (fun q => hr.2.1 q.symm)), flR_bad st 3 _ h]
      rw [e]
      exact ih hr.2.2
    | eat n =>
      show runS l r (tkN l 0 st (n : Nat) false).2 = st
      rw [tkN_bad l 0 st _ false h]
      exact ih hr
    | num n =>
      simp only [okP, Bool.and_eq_true] at hr
      show runS l r (nmS l 0 st (n : Nat)) = st
      rw [nm_bad l st _ h]
      exact ih hr.2.2

/-- What a reader notes is what is wrong. -/
theorem runS_spec (l : List UInt8) (r : List Stp) (hr : okP r = true) (st : RSt) (h : st.2.1 = 0) (hp : st.1 ≤ l.length) :
    (runP l r st.1 = none ∧ runS l r st = (st.1 + lenP r, st.2) ∧ st.1 + lenP r ≤ l.length) ∨ (∃ e x, runP l r st.1 = some (e, x) ∧ e ≠ 0 ∧ (runS l r st).2 = (e, (x : Int))) := by
  have bad : ∀ (r : List Stp) (st' : RSt) (e : Int) (x : Nat), okP r = true → st'.2 = (e, (x : Int)) → e ≠ 0 → (runS l r st').2 = (e, (x : Int)) := by
    intro r st' e x hr h2 he
    rw [runS_bad l r hr st' (by rw [h2]; exact he)]
    exact h2
  induction r generalizing st with
  | nil => exact Or.inl ⟨rfl, rfl, hp⟩
  | cons x r ih =>
    cases x with
    | want z =>
      simp only [okP, Bool.and_eq_true, Bool.not_eq_true', List.isEmpty_eq_false_iff] at hr
      by_cases c : l.length < st.1 + z.length
      · refine Or.inr ⟨7, st.1, by simp only [runP]; rw [if_pos c], by decide, ?_⟩
        exact bad r _ 7 st.1 hr.2 (by rw [ex_miss l st z hr.1 h (by omega) hp]) (by decide)
      · by_cases q : (l.drop st.1).take z.length = z
        · have e := ex_go l st z h (by omega) q
          have i := ih hr.2 (exS l st z) (by rw [e]; exact h) (by rw [e]; show st.1 + z.length ≤ _; omega)
          have e1 : runP l (.want z :: r) st.1 = runP l r (exS l st z).1 := by simp only [runP]; rw [if_neg c, if_pos q, e]
          have e2 : runS l (.want z :: r) st = runS l r (exS l st z) := rfl
          rw [e1, e2]
          rcases i with ⟨i1, i2, i3⟩ | i
          · refine Or.inl ⟨i1, ?_, ?_⟩
            · rw [i2, e]
              show (st.1 + z.length + lenP r, st.2) = (st.1 + (z.length + lenP r), st.2)
              rw [Nat.add_assoc]
            · rw [e] at i3
              have i4 : st.1 + z.length + lenP r ≤ l.length := i3
              show st.1 + (z.length + lenP r) ≤ _
              omega
          · exact Or.inr i
        · refine Or.inr ⟨3, st.1, by simp only [runP]; rw [if_neg c, if_neg q], by decide, ?_⟩
          exact bad r _ 3 st.1 hr.2 (ex_form l st z h (by omega) q) (by decide)
    | alt z y =>
      simp only [okP, Bool.and_eq_true, Bool.not_eq_true', List.isEmpty_eq_false_iff] at hr
      by_cases c : l.length < st.1 + z.length
      · refine Or.inr ⟨7, st.1, by simp only [runP]; rw [if_pos c], by decide, ?_⟩
        refine bad r _ 7 st.1 hr.2.2 ?_ (by decide)
        have e := tkN_miss l 0 st z.length false h (by omega) hp (by simp)
        unfold exS2
        rw [e, if_neg (fun q => q.elim (fun q => hr.1 q.symm) (fun q => hr.2.1 q.symm)), flR_bad _ 3 _ (by simp)]
        simp
      · have e0 := tkN_go l 0 st z.length false h (by omega) (by simp)
        by_cases q : (l.drop st.1).take z.length = z ∨ (l.drop st.1).take z.length = y
        · have e : exS2 l st z y = (st.1 + z.length, st.2) := by
            unfold exS2
            rw [e0, if_pos q]
          have i := ih hr.2.2 (exS2 l st z y) (by rw [e]; exact h) (by rw [e]; show st.1 + z.length ≤ _; omega)
          have e1 : runP l (.alt z y :: r) st.1 = runP l r (exS2 l st z y).1 := by simp only [runP]; rw [if_neg c, if_pos q, e]
          have e2 : runS l (.alt z y :: r) st = runS l r (exS2 l st z y) := rfl
          rw [e1, e2]
          rcases i with ⟨i1, i2, i3⟩ | i
          · refine Or.inl ⟨i1, ?_, ?_⟩
            · rw [i2, e]
              show (st.1 + z.length + lenP r, st.2) = (st.1 + (z.length + lenP r), st.2)
              rw [Nat.add_assoc]
            · rw [e] at i3
              have i4 : st.1 + z.length + lenP r ≤ l.length := i3
              show st.1 + (z.length + lenP r) ≤ _
              omega
          · exact Or.inr i
        · refine Or.inr ⟨3, st.1, by simp only [runP]; rw [if_neg c, if_neg q], by decide, ?_⟩
          refine bad r _ 3 st.1 hr.2.2 ?_ (by decide)
          unfold exS2
          rw [e0, if_neg q]
          unfold flR
          rw [if_neg (by simpa using h)]
    | eat n =>
      have hr' : okP r = true := hr
      by_cases c : l.length < st.1 + n
      · refine Or.inr ⟨7, st.1, by simp only [runP]; rw [if_pos c], by decide, ?_⟩
        refine bad r _ 7 st.1 hr' ?_ (by decide)
        rw [tkN_miss l 0 st n false h (by omega) hp (by simp)]
        simp
      · have e : (tkN l 0 st (n : Nat) false).2 = (st.1 + n, st.2) := by rw [tkN_go l 0 st n false h (by omega) (by simp)]
        have i := ih hr' (tkN l 0 st (n : Nat) false).2 (by rw [e]; exact h) (by rw [e]; show st.1 + n ≤ _; omega)
        have e1 : runP l (.eat n :: r) st.1 = runP l r (tkN l 0 st (n : Nat) false).2.1 := by simp only [runP]; rw [if_neg c, e]
        have e2 : runS l (.eat n :: r) st = runS l r (tkN l 0 st (n : Nat) false).2 := rfl
        rw [e1, e2]
        rcases i with ⟨i1, i2, i3⟩ | i
        · refine Or.inl ⟨i1, ?_, ?_⟩
          · rw [i2, e]
            show (st.1 + n + lenP r, st.2) = (st.1 + (n + lenP r), st.2)
            rw [Nat.add_assoc]
          · rw [e] at i3
            have i4 : st.1 + n + lenP r ≤ l.length := i3
            show st.1 + (n + lenP r) ≤ _
            omega
        · exact Or.inr i
    | num n =>
      simp only [okP, Bool.and_eq_true, decide_eq_true_eq] at hr
      by_cases c : l.length < st.1 + n
      · refine Or.inr ⟨7, st.1, by simp only [runP]; rw [if_pos c], by decide, ?_⟩
        exact bad r _ 7 st.1 hr.2.2 (by rw [nm_miss l st n hr.1 (by omega) h (by omega) hp]) (by decide)
      · have e : nmS l 0 st (n : Nat) = (st.1 + n, st.2) := (nm_go l st n hr.1 (by omega) h (by omega)).1
        have i := ih hr.2.2 (nmS l 0 st (n : Nat)) (by rw [e]; exact h) (by rw [e]; show st.1 + n ≤ _; omega)
        have e1 : runP l (.num n :: r) st.1 = runP l r (nmS l 0 st (n : Nat)).1 := by simp only [runP]; rw [if_neg c, e]
        have e2 : runS l (.num n :: r) st = runS l r (nmS l 0 st (n : Nat)) := rfl
        rw [e1, e2]
        rcases i with ⟨i1, i2, i3⟩ | i
        · refine Or.inl ⟨i1, ?_, ?_⟩
          · rw [i2, e]
            show (st.1 + n + lenP r, st.2) = (st.1 + (n + lenP r), st.2)
            rw [Nat.add_assoc]
          · rw [e] at i3
            have i4 : st.1 + n + lenP r ≤ l.length := i3
            show st.1 + (n + lenP r) ≤ _
            omega
        · exact Or.inr i

/-- What is wrong first in all of it, behind which only noughts stand. -/
def allP (l : List UInt8) (r : List Stp) : Option (Int × Nat) :=
  match runP l r 0 with
  | some x => some x
  | none => if lenP r + lead (l.drop (lenP r)) = l.length then none else some (15, lenP r + lead (l.drop (lenP r)))

theorem all_ans (l : List UInt8) (r : List Stp) (hr : okP r = true) :
    (allP l r = none ∧ runP l r 0 = none ∧ lenP r ≤ l.length ∧ runS l r (0, 0, -1) = (lenP r, 0, -1) ∧ zrR l 0 (runS l r (0, 0, -1)) = (true, l.length, 0, -1)) ∨
    (∃ e x, allP l r = some (e, x) ∧ e ≠ 0 ∧ (zrR l 0 (runS l r (0, 0, -1))).1 = false ∧ (zrR l 0 (runS l r (0, 0, -1))).2.2 = (e, (x : Int))) := by
  rcases runS_spec l r hr (0, 0, -1) rfl (Nat.zero_le _) with ⟨h1, h2, h3⟩ | ⟨e, x, h1, h2, h3⟩
  · have h1' : runP l r 0 = none := h1
    rw [Nat.zero_add] at h2 h3
    by_cases c : lenP r + lead (l.drop (lenP r)) = l.length
    · refine Or.inl ⟨by unfold allP; rw [h1']; exact if_pos c, h1', h3, h2, ?_⟩
      rw [h2]
      unfold zrR
      rw [if_neg (by simp), if_pos c]
    · refine Or.inr ⟨15, lenP r + lead (l.drop (lenP r)), by unfold allP; rw [h1']; exact if_neg c, by decide, ?_, ?_⟩
      · rw [h2]
        unfold zrR
        rw [if_neg (by simp), if_neg c]
      · rw [h2]
        unfold zrR
        rw [if_neg (by simp), if_neg c]
        simp
  · have h1' : runP l r 0 = some (e, x) := h1
    have hb : zrR l 0 (runS l r (0, 0, -1)) = (false, runS l r (0, 0, -1)) := zrR_bad _ _ _ (by rw [h3]; exact h2)
    exact Or.inr ⟨e, x, by unfold allP; rw [h1'], h2, by rw [hb], by rw [hb]; exact h3⟩

/-- One step of it. -/
theorem runP_want {l z : List UInt8} {r : List Stp} {p : Nat} (h : p + z.length ≤ l.length) (hz : (l.drop p).take z.length = z) : runP l (.want z :: r) p = runP l r (p + z.length) := by
  simp only [runP]; rw [if_neg (by omega), if_pos hz]

theorem runP_wantM {l z : List UInt8} {r : List Stp} {p : Nat} (h : ¬ p + z.length ≤ l.length) : runP l (.want z :: r) p = some (7, p) := by
  simp only [runP]; rw [if_pos (by omega)]

theorem runP_wantF {l z : List UInt8} {r : List Stp} {p : Nat} (h : p + z.length ≤ l.length) (hz : ¬ (l.drop p).take z.length = z) : runP l (.want z :: r) p = some (3, p) := by
  simp only [runP]; rw [if_neg (by omega), if_neg hz]

theorem runP_alt {l z y : List UInt8} {r : List Stp} {p : Nat} (h : p + z.length ≤ l.length) (hz : (l.drop p).take z.length = z ∨ (l.drop p).take z.length = y) : runP l (.alt z y :: r) p = runP l r (p + z.length) := by
  simp only [runP]; rw [if_neg (by omega), if_pos hz]

theorem runP_altM {l z y : List UInt8} {r : List Stp} {p : Nat} (h : ¬ p + z.length ≤ l.length) : runP l (.alt z y :: r) p = some (7, p) := by
  simp only [runP]; rw [if_pos (by omega)]

theorem runP_altF {l z y : List UInt8} {r : List Stp} {p : Nat} (h : p + z.length ≤ l.length) (hz : ¬ ((l.drop p).take z.length = z ∨ (l.drop p).take z.length = y)) : runP l (.alt z y :: r) p = some (3, p) := by
  simp only [runP]; rw [if_neg (by omega), if_neg hz]

theorem runP_eat {l : List UInt8} {r : List Stp} {p n : Nat} (h : p + n ≤ l.length) : runP l (.eat n :: r) p = runP l r (p + n) := by
  simp only [runP]; rw [if_neg (by omega)]

theorem runP_eatM {l : List UInt8} {r : List Stp} {p n : Nat} (h : ¬ p + n ≤ l.length) : runP l (.eat n :: r) p = some (7, p) := by
  simp only [runP]; rw [if_pos (by omega)]

theorem runP_num {l : List UInt8} {r : List Stp} {p n : Nat} (h : p + n ≤ l.length) : runP l (.num n :: r) p = runP l r (p + n) := by
  simp only [runP]; rw [if_neg (by omega)]

theorem runP_numM {l : List UInt8} {r : List Stp} {p n : Nat} (h : ¬ p + n ≤ l.length) : runP l (.num n :: r) p = some (7, p) := by
  simp only [runP]; rw [if_pos (by omega)]

theorem allP_some {l : List UInt8} {r : List Stp} {e : Int} {x : Nat} (h : runP l r 0 = some (e, x)) : allP l r = some (e, x) := by unfold allP; rw [h]

theorem allP_none {l : List UInt8} {r : List Stp} (h : runP l r 0 = none) : allP l r = if lenP r + lead (l.drop (lenP r)) = l.length then none else some (15, lenP r + lead (l.drop (lenP r))) := by unfold allP; rw [h]

/-- Behind p only noughts, or another byte at m. -/
theorem lead_ways (s : ByteArray) (p : Nat) (hp : p ≤ s.size) :
    ((∀ (j : Nat) b, p ≤ j → s.data.toList[j]? = some b → b = 0) ∧ p + lead (s.data.toList.drop p) = s.data.toList.length) ∨
    (∃ m, ∃ hm : m < s.size, p ≤ m ∧ (∀ (j : Nat) b, p ≤ j → j < m → s.data.toList[j]? = some b → b = 0) ∧ s[m] ≠ 0 ∧ p + lead (s.data.toList.drop p) = m) := by
  rcases zrR_ways s p (-1) hp with ⟨h, e⟩ | ⟨m, hm, h1, h2, h3, e⟩
  · refine Or.inl ⟨h, ?_⟩
    by_cases c : p + lead (s.data.toList.drop p) = s.data.toList.length
    · exact c
    · unfold zrR at e
      rw [if_neg (by simp), if_neg c] at e
      simp at e
  · refine Or.inr ⟨m, hm, h1, h2, h3, ?_⟩
    by_cases c : p + lead (s.data.toList.drop p) = s.data.toList.length
    · unfold zrR at e
      rw [if_neg (by simp), if_pos c] at e
      simp at e
    · unfold zrR at e
      rw [if_neg (by simp), if_neg c] at e
      simp only [Prod.mk.injEq, true_and] at e
      exact e.1

end Go.Proofs.YtdjljnpbnhampaaDoor

namespace Go.Proofs.YtdjljnpbnhampaaDoor
open Go.RowKit
attribute [local go_sem ↓] Go.wp_at_zero Go.wp_at_succ
set_option linter.unusedSimpArgs false
set_option linter.unusedVariables false
set_option maxRecDepth 100000

theorem index_no (t : ByteArray) (w : World) :
    Calls Tryd.prog 101 #[.slice none 0 0, .string t] w fun e w' => e = .returned (.int .i64 (-1)) ∧ w = w' := by
  go_enter Tryd.func101, Tryd.ntmps101
  go_wp2_with fail
  go_loopw [8] (fun i wr => i = .int .i64 0 ∧ wr = w) (fun _ _ => 0)
  case atStart => exact ⟨rfl, rfl⟩
  case round =>
    obtain ⟨rfl, rfl⟩ := hrel
    go_wp2
    go_ret
    exact ⟨rfl, rfl⟩

theorem contains_no (t : ByteArray) (w : World) :
    Calls Tryd.prog 73 #[.slice none 0 0, .string t] w fun e w' => e = .returned (.bool false) ∧ w = w' := by
  go_enter Tryd.func73, Tryd.ntmps73
  go_wp2_with fail
  refine (index_no t _).mono ?_
  rintro e w2 ⟨rfl, rfl⟩
  go_wp2
  go_ret
  exact ⟨rfl, rfl⟩

theorem index_one (t y : ByteArray) (b : Nat) (w : World) (hc : w.cell? ⟨b, 0, none⟩ = some (.string y)) :
    Calls Tryd.prog 101 #[.slice (some ⟨b, 0, none⟩) 1 1, .string t] w fun e w' => e = .returned (.int .i64 (if t = y then 0 else -1)) ∧ w = w' := by
  by_cases c : t = y
  · subst c
    rw [if_pos rfl]
    go_enter Tryd.func101, Tryd.ntmps101
    go_wp2_with fail
    go_loopw [8] (fun i wr => i = .int .i64 0 ∧ wr = w) (fun _ _ => 0)
    case atStart => exact ⟨rfl, rfl⟩
    case round =>
      obtain ⟨rfl, rfl⟩ := hrel
      go_wp2
      go_ret
      exact ⟨rfl, rfl⟩
  · rw [if_neg c]
    have hn : (t.toList == y.toList) = false := by
      apply beq_eq_false_iff_ne.2
      rw [ByteArray.toList_eq, ByteArray.toList_eq]
      intro e
      exact c (ByteArray.ext (Array.toList_inj.1 e))
    clear c
    go_enter Tryd.func101, Tryd.ntmps101
    go_wp2_with fail
    go_loopw [8] (fun i wr => ∃ k : Nat, k ≤ 1 ∧ i = .int .i64 k ∧ wr = w) (fun i _ => 1 - (intOf i).toNat)
    case atStart => exact ⟨0, by omega, rfl, rfl⟩
    case round =>
      obtain ⟨k, hk, rfl, rfl⟩ := hrel
      by_cases hlt : k < 1
      · obtain rfl : k = 0 := by omega
        go_wp2
        go_roundw
        case rel => first | exact ⟨1, by omega, by go_num, rfl⟩ | exact ⟨1, by omega, by go_num, trivial⟩ | exact ⟨1, by omega, by go_num⟩
        case measure => simp [intOf]
      · obtain rfl : k = 1 := by omega
        go_wp2
        go_ret
        exact ⟨rfl, rfl⟩

theorem contains_one (t y : ByteArray) (b : Nat) (w : World) (hc : w.cell? ⟨b, 0, none⟩ = some (.string y)) :
    Calls Tryd.prog 73 #[.slice (some ⟨b, 0, none⟩) 1 1, .string t] w fun e w' => e = .returned (.bool (decide (t = y))) ∧ w = w' := by
  have HI := Lib.hid (index_one t y b w hc)
  by_cases c : t = y
  · rw [if_pos c] at HI
    rw [decide_eq_true c]
    clear c
    go_enter Tryd.func73, Tryd.ntmps73
    go_wp2_with fail
    refine (HI.out).mono ?_
    rintro e w2 ⟨rfl, rfl⟩
    go_wp2
    go_ret
    exact ⟨rfl, rfl⟩
  · rw [if_neg c] at HI
    rw [decide_eq_false c]
    clear c
    go_enter Tryd.func73, Tryd.ntmps73
    go_wp2_with fail
    refine (HI.out).mono ?_
    rintro e w2 ⟨rfl, rfl⟩
    go_wp2
    go_ret
    exact ⟨rfl, rfl⟩

theorem RdT.pos {w : World} {g : Nat} {s : ByteArray} {st : RSt} (h : RdT w g s 0 st) : w.cell? ⟨g, 1, none⟩ = some (.int .i64 (st.1 : Int)) := by
  obtain ⟨f, hr, _⟩ := h
  have e := hr.c1
  rw [show ((0 : Nat) : Int) + (st.1 : Int) = (st.1 : Int) by omega] at e
  exact e

/-- What they are. -/
def exV (l : List UInt8) (st : RSt) (z : List UInt8) : List UInt8 := if (tkN l 0 st (z.length : Nat) false).1 = z then (tkN l 0 st (z.length : Nat) false).1 else []

theorem exp_t {g : Nat} {s : ByteArray} (z : ByteArray) (hz : z.size ≤ 8) (st : RSt) (w : World) (h : RdT w g s 0 st) (hp : st.1 ≤ s.size) (hb : 0 + s.size ≤ 281474976710656) :
    Calls Tryd.prog 39 #[.pointer (some ⟨g, 0, none⟩), .string z, .slice none 0 0] w fun e w' => e = .returned (.string ⟨(exV s.data.toList st z.data.toList).toArray⟩) ∧ RdT w' g s 0 (exS s.data.toList st z.data.toList) ∧ w.grownBy w' (some g) := by
  have hzl : z.data.toList.length = z.size := by simp
  have HY : Hid (∀ W, RdT W g s 0 st → Calls Tryd.prog 43 #[.pointer (some ⟨g, 0, none⟩), .int .i64 (z.size : Nat)] W fun e w' => e = .returned (.string ⟨(tkN s.data.toList 0 st (z.size : Nat) false).1.toArray⟩) ∧ RdT w' g s 0 (tkN s.data.toList 0 st (z.size : Nat) false).2 ∧ W.grownBy w' (some g)) := fun W h => bytes_t st _ W h hp hb
  have HT : Hid (exS s.data.toList st z.data.toList = if (tkN s.data.toList 0 st (z.size : Nat) false).1 = z.data.toList then (tkN s.data.toList 0 st (z.size : Nat) false).2 else flR (tkN s.data.toList 0 st (z.size : Nat) false).2 3 (st.1 : Int)) := by
    show _ = _
    unfold exS
    rw [hzl]
  have HV : Hid (exV s.data.toList st z.data.toList = if (tkN s.data.toList 0 st (z.size : Nat) false).1 = z.data.toList then (tkN s.data.toList 0 st (z.size : Nat) false).1 else []) := by
    show _ = _
    unfold exV
    rw [hzl]
  have c1 := h.pos
  generalize (tkN s.data.toList 0 st (z.size : Nat) false).2 = s2 at *
  generalize exS s.data.toList st z.data.toList = s3 at *
  generalize exV s.data.toList st z.data.toList = v3 at *
  generalize (st.1 : Int) = pl at *
  obtain ⟨u, hu⟩ : ∃ u : ByteArray, u = ⟨(tkN s.data.toList 0 st (z.size : Nat) false).1.toArray⟩ := ⟨_, rfl⟩
  rw [← hu] at HY
  have hul : u.data.toList = (tkN s.data.toList 0 st (z.size : Nat) false).1 := by rw [hu]
  rw [← hul] at HT HV
  clear hul hu hp hb hzl
  by_cases c : u.data.toList = z.data.toList
  · rw [if_pos c] at HT HV
    have hT := HT.out
    subst hT
    have hc : u = z := by
      apply ByteArray.ext
      apply Array.toList_inj.1
      exact c
    subst hc
    clear c HT
    go_enter Tryd.func39, Tryd.ntmps39
    go_wp2_with fail
    refine (HY.out _ h).mono ?_
    rintro e w2 ⟨rfl, h2, g2⟩
    go_wp2
    go_ret
    exact ⟨by rw [HV.out] <;> rfl, h2, g2⟩
  · rw [if_neg c] at HT HV
    have hT := HT.out
    subst hT
    have hn : (u.toList == z.toList) = false := by
      apply beq_eq_false_iff_ne.2
      rw [ByteArray.toList_eq, ByteArray.toList_eq]
      exact c
    clear c HT
    go_enter Tryd.func39, Tryd.ntmps39
    go_wp2_with fail
    refine (HY.out _ h).mono ?_
    rintro e w2 ⟨rfl, h2, g2⟩
    go_wp2_with fail
    refine (contains_no u _).mono ?_
    rintro e w3 ⟨rfl, rfl⟩
    go_wp2_with fail
    refine (fail_t s2 3 pl (by decide) _ h2).mono ?_
    rintro e w3 ⟨rfl, h3, g3⟩
    go_wp2
    go_ret
    exact ⟨by rw [HV.out] <;> rfl, h3, grown_same g2 g3⟩

/-- This text, or one other. -/
theorem exp2_t {g b : Nat} {s : ByteArray} (z y : ByteArray) (hz : z.size ≤ 8) (st : RSt) (w : World) (h : RdT w g s 0 st) (hY : Blk w b 9 #[.string y]) (hp : st.1 ≤ s.size) (hb : 0 + s.size ≤ 281474976710656) :
    Calls Tryd.prog 39 #[.pointer (some ⟨g, 0, none⟩), .string z, .slice (some ⟨b, 0, none⟩) 1 1] w fun e w' => e = .returned (.string ⟨(exV2 s.data.toList st z.data.toList y.data.toList).toArray⟩) ∧ RdT w' g s 0 (exS2 s.data.toList st z.data.toList y.data.toList) ∧ w.grownBy w' (some g) := by
  have hzl : z.data.toList.length = z.size := by simp
  have HY : Hid (∀ W, RdT W g s 0 st → Calls Tryd.prog 43 #[.pointer (some ⟨g, 0, none⟩), .int .i64 (z.size : Nat)] W fun e w' => e = .returned (.string ⟨(tkN s.data.toList 0 st (z.size : Nat) false).1.toArray⟩) ∧ RdT w' g s 0 (tkN s.data.toList 0 st (z.size : Nat) false).2 ∧ W.grownBy w' (some g)) := fun W h => bytes_t st _ W h hp hb
  have HT : Hid (exS2 s.data.toList st z.data.toList y.data.toList = if (tkN s.data.toList 0 st (z.size : Nat) false).1 = z.data.toList ∨ (tkN s.data.toList 0 st (z.size : Nat) false).1 = y.data.toList then (tkN s.data.toList 0 st (z.size : Nat) false).2 else flR (tkN s.data.toList 0 st (z.size : Nat) false).2 3 (st.1 : Int)) := by
    show _ = _
    unfold exS2
    rw [hzl]
  have HV : Hid (exV2 s.data.toList st z.data.toList y.data.toList = if (tkN s.data.toList 0 st (z.size : Nat) false).1 = z.data.toList ∨ (tkN s.data.toList 0 st (z.size : Nat) false).1 = y.data.toList then (tkN s.data.toList 0 st (z.size : Nat) false).1 else []) := by
    show _ = _
    unfold exV2
    rw [hzl]
  have c1 := h.pos
  have HB := Lib.hid (fun (W : World) (h1 : Blk W b 9 #[.string y]) => h1.cv 0 (.string y) rfl)
  generalize (tkN s.data.toList 0 st (z.size : Nat) false).2 = s2 at *
  generalize exS2 s.data.toList st z.data.toList y.data.toList = s3 at *
  generalize exV2 s.data.toList st z.data.toList y.data.toList = v3 at *
  generalize (st.1 : Int) = pl at *
  obtain ⟨u, hu⟩ : ∃ u : ByteArray, u = ⟨(tkN s.data.toList 0 st (z.size : Nat) false).1.toArray⟩ := ⟨_, rfl⟩
  rw [← hu] at HY
  have hul : u.data.toList = (tkN s.data.toList 0 st (z.size : Nat) false).1 := by rw [hu]
  rw [← hul] at HT HV
  clear hul hu hp hb hzl
  have same : ∀ t : ByteArray, u.data.toList = t.data.toList → u = t := fun t c => by
    apply ByteArray.ext
    apply Array.toList_inj.1
    exact c
  by_cases c : u.data.toList = z.data.toList
  · rw [if_pos (Or.inl c)] at HT HV
    have hT := HT.out
    subst hT
    have hc := same z c
    subst hc
    clear c HT same
    go_enter Tryd.func39, Tryd.ntmps39
    go_wp2_with fail
    refine (HY.out _ h).mono ?_
    rintro e w2 ⟨rfl, h2, g2⟩
    go_wp2
    go_ret
    exact ⟨by rw [HV.out] <;> rfl, h2, g2⟩
  · have hn : (u.toList == z.toList) = false := by
      apply beq_eq_false_iff_ne.2
      rw [ByteArray.toList_eq, ByteArray.toList_eq]
      exact c
    by_cases d : u.data.toList = y.data.toList
    · rw [if_pos (Or.inr d)] at HT HV
      have hT := HT.out
      subst hT
      have hd := same y d
      have HC := Lib.hid (fun (W : World) (hc : W.cell? ⟨b, 0, none⟩ = some (.string y)) => contains_one u y b W hc)
      rw [decide_eq_true hd] at HC
      clear c d HT same hd
      go_enter Tryd.func39, Tryd.ntmps39
      go_wp2_with fail
      refine (HY.out _ h).mono ?_
      rintro e w2 ⟨rfl, h2, g2⟩
      have hY2 := hY.reads h (by decide : 9 ≠ 160) g2
      go_wp2_with fail
      refine (HC.out _ (HB.out _ hY2)).mono ?_
      rintro e w3 ⟨rfl, rfl⟩
      go_wp2
      go_ret
      exact ⟨by rw [HV.out] <;> rfl, h2, g2⟩
    · rw [if_neg (fun q => q.elim c d)] at HT HV
      have hT := HT.out
      subst hT
      have hd : ¬ u = y := fun q => d (by rw [q])
      have HC := Lib.hid (fun (W : World) (hc : W.cell? ⟨b, 0, none⟩ = some (.string y)) => contains_one u y b W hc)
      rw [decide_eq_false hd] at HC
      clear c d HT same hd
      go_enter Tryd.func39, Tryd.ntmps39
      go_wp2_with fail
      refine (HY.out _ h).mono ?_
      rintro e w2 ⟨rfl, h2, g2⟩
      have hY2 := hY.reads h (by decide : 9 ≠ 160) g2
      go_wp2_with fail
      refine (HC.out _ (HB.out _ hY2)).mono ?_
      rintro e w3 ⟨rfl, rfl⟩
      go_wp2_with fail
      refine (fail_t s2 3 pl (by decide) _ h2).mono ?_
      rintro e w3 ⟨rfl, h3, g3⟩
      go_wp2
      go_ret
      exact ⟨by rw [HV.out] <;> rfl, h3, grown_same g2 g3⟩

end Go.Proofs.YtdjljnpbnhampaaDoor

namespace Go.Proofs.YtdjljnpbnhampaaDoor
open Go.RowKit
set_option linter.unusedVariables false

/-- What a reader's error says: nothing (0, -1), or an At. -/
def ErrAs (w : World) (er : Value) (e pl : Int) : Prop := (er = .nilIface ∧ e = 0 ∧ pl = -1) ∨ (e ≠ 0 ∧ ∃ q, er = .iface 142 (.pointer (some ⟨q, 0, none⟩)) ∧ Flt w q e pl)

theorem ErrAs.below {w w' : World} {er : Value} {e pl : Int} (h : ErrAs w er e pl) (hb : Below w.heap.size w w') : ErrAs w' er e pl := by
  rcases h with h | ⟨he, q, hq, hf⟩
  · exact Or.inl h
  · exact Or.inr ⟨he, q, hq, hf.below hb⟩

theorem ErrAs.nil {w : World} : ErrAs w .nilIface 0 (-1) := Or.inl ⟨rfl, rfl, rfl⟩

/-- A reader's answer: a value, and its error. -/
def ReadsAs (X : Array Value) (e pl : Int) (w : World) (r : Ending) (w' : World) : Prop := ∃ er, r = .returned (.tuple #[.agg X, er]) ∧ ErrAs w' er e pl ∧ Below w.heap.size w w'


end Go.Proofs.YtdjljnpbnhampaaDoor

namespace Go.Proofs.YtdjljnpbnhampaaDoor
open Go.RowKit
attribute [local go_sem ↓] Go.wp_at_zero Go.wp_at_succ
set_option linter.unusedSimpArgs false
set_option linter.unusedVariables false
set_option maxRecDepth 100000

/-- A length that may be. -/
def okLen (v : Nat) : Bool := decide (64 ≤ v) && (decide (v ≤ 1088) && decide (v % 16 = 0))

def rcS (l : List UInt8) (st : RSt) : RSt := if okLen (nmV l 0 st 2) then nmS l 0 st 2 else flR (nmS l 0 st 2) 2 (st.1 : Int)

def rcN (l : List UInt8) (st : RSt) : Nat := if okLen (nmV l 0 st 2) then (nmV l 0 st 2 - 64) / 16 else 0

theorem rcS_le (l : List UInt8) (st : RSt) (h : st.1 ≤ l.length) : (rcS l st).1 ≤ l.length := by
  unfold rcS
  split
  · exact nmS_le l 0 st _ h
  · exact flR_le l _ _ _ (nmS_le l 0 st _ h)

theorem rcN_le (l : List UInt8) (st : RSt) : rcN l st ≤ 64 := by
  unfold rcN okLen
  split
  · next h =>
    simp only [Bool.and_eq_true, decide_eq_true_eq] at h
    omega
  · omega

set_option maxHeartbeats 1600000 in
theorem readCount_t {g : Nat} {s : ByteArray} (st : RSt) (w : World) (h : RdT w g s 0 st) (hp : st.1 ≤ s.size) (hb : 0 + s.size ≤ 281474976710656) :
    Calls Tryd.prog 41 #[.pointer (some ⟨g, 0, none⟩)] w fun e w' => e = .returned (.int .i64 (rcN s.data.toList st : Nat)) ∧ RdT w' g s 0 (rcS s.data.toList st) ∧ w.grownBy w' (some g) := by
  have HY : Hid (∀ W, RdT W g s 0 st → Calls Tryd.prog 44 #[.pointer (some ⟨g, 0, none⟩), .int .i64 2] W fun e w' => e = .returned (.int .i64 (nmV s.data.toList 0 st 2 : Nat)) ∧ RdT w' g s 0 (nmS s.data.toList 0 st 2) ∧ W.grownBy w' (some g)) := fun W h => numK_t st 2 (by decide) W h hp hb
  have HA : Hid (∀ W, RdT W g s 0 st → Calls Tryd.prog 77 #[.pointer (some ⟨g, 0, none⟩)] W fun e w' => e = .returned (.int .i64 (st.1 : Int)) ∧ W = w') := fun W h => by
    have q := at_t st W h
    rw [show ((0 : Nat) : Int) + (st.1 : Int) = (st.1 : Int) by omega] at q
    exact q
  have HV : nmV s.data.toList 0 st 2 < 65536 := nmV_lt s.data.toList 0 st 2
  have HS : Hid (rcS s.data.toList st = if okLen (nmV s.data.toList 0 st 2) then nmS s.data.toList 0 st 2 else flR (nmS s.data.toList 0 st 2) 2 (st.1 : Int)) := rfl
  have HN : Hid (rcN s.data.toList st = if okLen (nmV s.data.toList 0 st 2) then (nmV s.data.toList 0 st 2 - 64) / 16 else 0) := rfl
  generalize nmS s.data.toList 0 st 2 = s2 at *
  generalize nmV s.data.toList 0 st 2 = v at *
  generalize rcS s.data.toList st = s3 at *
  generalize rcN s.data.toList st = n at *
  generalize (st.1 : Int) = pl at *
  clear hp hb
  obtain ⟨u, hu⟩ : ∃ u : Int, (v : Int) - 64 = u := ⟨_, rfl⟩
  have wu : IntKind.i64.wrap ((v : Int) - 64) = u := by rw [IntKind.wrap_i64] <;> omega
  by_cases q0 : u < 0
  · have hk : okLen v = false := by unfold okLen; rw [decide_eq_false (show ¬ 64 ≤ v by omega)]; rfl
    have hS := HS.out
    have hN := HN.out
    rw [hk] at hS hN
    simp only [Bool.false_eq_true, if_false] at hS hN
    subst hS hN
    have d0 : decide (u < 0) = true := decide_eq_true q0
    clear HS HN hk hu
    go_enter Tryd.func41, Tryd.ntmps41
    go_wp2_with fail
    refine (HA.out _ h).mono ?_
    rintro e w1 ⟨rfl, rfl⟩
    go_wp2_with fail
    refine (HY.out _ h).mono ?_
    rintro e w2 ⟨rfl, h2, g2⟩
    go_wp2_with fail
    refine (fail_t s2 2 pl (by decide) _ h2).mono ?_
    rintro e w3 ⟨rfl, h3, g3⟩
    go_wp2
    go_ret
    exact ⟨rfl, h3, grown_same g2 g3⟩
  · have d0 : decide (u < 0) = false := decide_eq_false q0
    by_cases q1 : 1024 < u
    · have hk : okLen v = false := by unfold okLen; rw [decide_eq_false (show ¬ v ≤ 1088 by omega)]; simp
      have hS := HS.out
      have hN := HN.out
      rw [hk] at hS hN
      simp only [Bool.false_eq_true, if_false] at hS hN
      subst hS hN
      have d1 : decide (1024 < u) = true := decide_eq_true q1
      clear HS HN hk hu
      go_enter Tryd.func41, Tryd.ntmps41
      go_wp2_with fail
      refine (HA.out _ h).mono ?_
      rintro e w1 ⟨rfl, rfl⟩
      go_wp2_with fail
      refine (HY.out _ h).mono ?_
      rintro e w2 ⟨rfl, h2, g2⟩
      go_wp2_with fail
      refine (fail_t s2 2 pl (by decide) _ h2).mono ?_
      rintro e w3 ⟨rfl, h3, g3⟩
      go_wp2
      go_ret
      exact ⟨rfl, h3, grown_same g2 g3⟩
    · have d1 : decide (1024 < u) = false := decide_eq_false q1
      have wm : IntKind.i64.wrap (Int.tmod u 16) = u % 16 := by rw [Int.tmod_eq_emod_of_nonneg (by omega), IntKind.wrap_i64] <;> omega
      have wd : IntKind.i64.wrap (Int.tdiv u 16) = u / 16 := by rw [Int.tdiv_eq_ediv_of_nonneg (by omega), IntKind.wrap_i64] <;> omega
      by_cases q2 : u % 16 = 0
      · have hk : okLen v = true := by unfold okLen; rw [decide_eq_true (show 64 ≤ v by omega), decide_eq_true (show v ≤ 1088 by omega), decide_eq_true (show v % 16 = 0 by omega)]; rfl
        have hS := HS.out
        have hN := HN.out
        rw [hk] at hS hN
        simp only [if_true] at hS hN
        subst hS
        have hn : u / 16 = (n : Int) := by omega
        have d2 : (u % 16 != 0) = false := by simp [q2]
        have d3 : (u % 16 == 0) = true := by simp [q2]
        clear HS HN hk hu hN
        go_enter Tryd.func41, Tryd.ntmps41
        go_wp2_with fail
        refine (HA.out _ h).mono ?_
        rintro e w1 ⟨rfl, rfl⟩
        go_wp2_with fail
        refine (HY.out _ h).mono ?_
        rintro e w2 ⟨rfl, h2, g2⟩
        go_wp2
        go_ret
        exact ⟨by rw [← hn]; rfl, h2, g2⟩
      · have hk : okLen v = false := by unfold okLen; rw [decide_eq_false (show ¬ v % 16 = 0 by omega)]; simp
        have hS := HS.out
        have hN := HN.out
        rw [hk] at hS hN
        simp only [Bool.false_eq_true, if_false] at hS hN
        subst hS hN
        have d2 : (u % 16 != 0) = true := by simp [q2]
        have d3 : (u % 16 == 0) = false := by simp [q2]
        clear HS HN hk hu
        go_enter Tryd.func41, Tryd.ntmps41
        go_wp2_with fail
        refine (HA.out _ h).mono ?_
        rintro e w1 ⟨rfl, rfl⟩
        go_wp2_with fail
        refine (HY.out _ h).mono ?_
        rintro e w2 ⟨rfl, h2, g2⟩
        go_wp2_with fail
        refine (fail_t s2 2 pl (by decide) _ h2).mono ?_
        rintro e w3 ⟨rfl, h3, g3⟩
        go_wp2
        go_ret
        exact ⟨rfl, h3, grown_same g2 g3⟩

/-- The states within an instance. -/
def si1 (l : List UInt8) (st : RSt) : RSt := nmS l 0 st 1

def si2 (l : List UInt8) (st : RSt) : RSt := rdBs l 0 (si1 l st)

def si3 (l : List UInt8) (st : RSt) : RSt := nmS l 0 (si2 l st) 4

def si4 (l : List UInt8) (st : RSt) : RSt := nmS l 0 (si3 l st) 1

def si5 (l : List UInt8) (st : RSt) : RSt := nmS l 0 (si4 l st) 1

def si6 (l : List UInt8) (st : RSt) : RSt := nmS l 0 (si5 l st) 1

def riV (l : List UInt8) (st : RSt) : Ins := ⟨ofF (nmV l 0 st 1), rdB l 0 (si1 l st), (nmV l 0 (si2 l st) 4 : Nat), (nmV l 0 (si3 l st) 1 / 16 : Nat), (nmV l 0 (si4 l st) 1 / 16 : Nat), (nmV l 0 (si5 l st) 1 : Nat)⟩

theorem si6_le (l : List UInt8) (st : RSt) (h : st.1 ≤ l.length) : (si6 l st).1 ≤ l.length :=
  nmS_le _ _ _ _ (nmS_le _ _ _ _ (nmS_le _ _ _ _ (nmS_le _ _ _ _ (rdBs_le _ _ _ (nmS_le _ _ _ _ h)))))

set_option maxHeartbeats 3200000 in
theorem readInst_t {g : Nat} {s : ByteArray} (st : RSt) (w : World) (h : RdT w g s 0 st) (hp : st.1 ≤ s.size) (hb : 0 + s.size ≤ 281474976710656) :
    Calls Tryd.prog 46 #[.pointer (some ⟨g, 0, none⟩)] w fun e w' => e = .returned (.agg (inC (riV s.data.toList st))) ∧ RdT w' g s 0 (si6 s.data.toList st) ∧ w.grownBy w' (some g) := by
  have hls : s.data.toList.length = s.size := by simp
  have h0 : st.1 ≤ s.data.toList.length := by rw [hls]; exact hp
  have P1 : (si1 s.data.toList st).1 ≤ s.data.toList.length := nmS_le _ _ _ _ h0
  have P2 : (si2 s.data.toList st).1 ≤ s.data.toList.length := rdBs_le _ _ _ P1
  have P3 : (si3 s.data.toList st).1 ≤ s.data.toList.length := nmS_le _ _ _ _ P2
  have P4 : (si4 s.data.toList st).1 ≤ s.data.toList.length := nmS_le _ _ _ _ P3
  have P5 : (si5 s.data.toList st).1 ≤ s.data.toList.length := nmS_le _ _ _ _ P4
  rw [hls] at P1 P2 P3 P4 P5
  have N1 : Hid (∀ W, RdT W g s 0 st → Calls Tryd.prog 44 #[.pointer (some ⟨g, 0, none⟩), .int .i64 1] W fun e w' => e = .returned (.int .i64 (nmV s.data.toList 0 st 1 : Nat)) ∧ RdT w' g s 0 (si1 s.data.toList st) ∧ W.grownBy w' (some g)) := fun W h => numK_t _ 1 (by decide) W h hp hb
  have N2 : Hid (∀ W, RdT W g s 0 (si1 s.data.toList st) → Calls Tryd.prog 45 #[.pointer (some ⟨g, 0, none⟩)] W fun e w' => e = .returned (.agg (brC (rdB s.data.toList 0 (si1 s.data.toList st)))) ∧ RdT w' g s 0 (si2 s.data.toList st) ∧ W.grownBy w' (some g)) := fun W h => prRead_t _ W h P1 hb
  have N3 : Hid (∀ W, RdT W g s 0 (si2 s.data.toList st) → Calls Tryd.prog 44 #[.pointer (some ⟨g, 0, none⟩), .int .i64 4] W fun e w' => e = .returned (.int .i64 (nmV s.data.toList 0 (si2 s.data.toList st) 4 : Nat)) ∧ RdT w' g s 0 (si3 s.data.toList st) ∧ W.grownBy w' (some g)) := fun W h => numK_t _ 4 (by decide) W h P2 hb
  have N4 : Hid (∀ W, RdT W g s 0 (si3 s.data.toList st) → Calls Tryd.prog 44 #[.pointer (some ⟨g, 0, none⟩), .int .i64 1] W fun e w' => e = .returned (.int .i64 (nmV s.data.toList 0 (si3 s.data.toList st) 1 : Nat)) ∧ RdT w' g s 0 (si4 s.data.toList st) ∧ W.grownBy w' (some g)) := fun W h => numK_t _ 1 (by decide) W h P3 hb
  have N5 : Hid (∀ W, RdT W g s 0 (si4 s.data.toList st) → Calls Tryd.prog 44 #[.pointer (some ⟨g, 0, none⟩), .int .i64 1] W fun e w' => e = .returned (.int .i64 (nmV s.data.toList 0 (si4 s.data.toList st) 1 : Nat)) ∧ RdT w' g s 0 (si5 s.data.toList st) ∧ W.grownBy w' (some g)) := fun W h => numK_t _ 1 (by decide) W h P4 hb
  have N6 : Hid (∀ W, RdT W g s 0 (si5 s.data.toList st) → Calls Tryd.prog 44 #[.pointer (some ⟨g, 0, none⟩), .int .i64 1] W fun e w' => e = .returned (.int .i64 (nmV s.data.toList 0 (si5 s.data.toList st) 1 : Nat)) ∧ RdT w' g s 0 (si6 s.data.toList st) ∧ W.grownBy w' (some g)) := fun W h => numK_t _ 1 (by decide) W h P5 hb
  have L1 : nmV s.data.toList 0 st 1 < 256 := nmV_lt s.data.toList 0 st 1
  have L4 : nmV s.data.toList 0 (si3 s.data.toList st) 1 < 256 := nmV_lt s.data.toList 0 _ 1
  have L5 : nmV s.data.toList 0 (si4 s.data.toList st) 1 < 256 := nmV_lt s.data.toList 0 _ 1
  have HO := Lib.hid (fun W => of_any (nmV s.data.toList 0 st 1) L1 W)
  have HV : Hid (riV s.data.toList st = ⟨ofF (nmV s.data.toList 0 st 1), rdB s.data.toList 0 (si1 s.data.toList st), (nmV s.data.toList 0 (si2 s.data.toList st) 4 : Nat), (nmV s.data.toList 0 (si3 s.data.toList st) 1 / 16 : Nat), (nmV s.data.toList 0 (si4 s.data.toList st) 1 / 16 : Nat), (nmV s.data.toList 0 (si5 s.data.toList st) 1 : Nat)⟩) := rfl
  generalize riV s.data.toList st = rv at *
  generalize nmV s.data.toList 0 st 1 = n1 at *
  generalize rdB s.data.toList 0 (si1 s.data.toList st) = b2 at *
  generalize nmV s.data.toList 0 (si2 s.data.toList st) 4 = n3 at *
  generalize nmV s.data.toList 0 (si3 s.data.toList st) 1 = n4 at *
  generalize nmV s.data.toList 0 (si4 s.data.toList st) 1 = n5 at *
  generalize nmV s.data.toList 0 (si5 s.data.toList st) 1 = n6 at *
  generalize si6 s.data.toList st = t6 at *
  generalize si5 s.data.toList st = t5 at *
  generalize si4 s.data.toList st = t4 at *
  generalize si3 s.data.toList st = t3 at *
  generalize si2 s.data.toList st = t2 at *
  generalize si1 s.data.toList st = t1 at *
  obtain ⟨v4, hv4⟩ : ∃ v : Int, v = ((n4 / 16 : Nat) : Int) := ⟨_, rfl⟩
  obtain ⟨v5, hv5⟩ : ∃ v : Int, v = ((n5 / 16 : Nat) : Int) := ⟨_, rfl⟩
  have w4 : IntKind.i64.wrap (Int.tdiv (n4 : Int) 16) = v4 := by rw [Int.tdiv_eq_ediv_of_nonneg (by omega), IntKind.wrap_i64] <;> omega
  have w5 : IntKind.i64.wrap (Int.tdiv (n5 : Int) 16) = v5 := by rw [Int.tdiv_eq_ediv_of_nonneg (by omega), IntKind.wrap_i64] <;> omega
  have w4b : IntKind.i64.wrap ((n4 : Int) / 16) = v4 := by rw [IntKind.wrap_i64] <;> omega
  have w5b : IntKind.i64.wrap ((n5 : Int) / 16) = v5 := by rw [IntKind.wrap_i64] <;> omega
  rw [← hv4, ← hv5] at HV
  have hg := h.lt
  have R1 := Blk.new w 111 (inC zIns)
  have h00 := h.al (.cells (inC zIns) 111)
  have G0 : w.grownBy (w.alloc (.cells (inC zIns) 111)) (some g) := World.grownBy_alloc w _ _
  clear P1 P2 P3 P4 P5 hp hb h0 hls hv4 hv5 L4 L5 h
  go_enter Tryd.func46, Tryd.ntmps46
  go_wp2_with (refine alloc_blk 111 (inC zIns) (by rfl) rfl Tryd.inZero ?_)
  generalize w.alloc (.cells (inC zIns) 111) = w1 at *
  refine (N1.out _ h00).mono ?_
  rintro e u2 ⟨rfl, h2, g2⟩
  have R2 := R1.grown g2 (by simp; omega)
  have G2 := grown_same G0 g2
  clear R1 h00 G0 g2
  go_wp2_with fail
  refine (HO.out _).mono ?_
  rintro e u3 ⟨rfl, k3⟩
  have R3 := R2.kept k3
  have h3 := h2.below k3
  have G3 := grown_belowT G2 k3
  clear R2 h2 G2 k3
  go_wp2_with fail
  refine (N2.out _ h3).mono ?_
  rintro e u4 ⟨rfl, h4, g4⟩
  have R4 := R3.grown g4 (by simp; omega)
  have G4 := grown_same G3 g4
  clear R3 h3 G3 g4
  go_wp2_with fail
  refine (N3.out _ h4).mono ?_
  rintro e u5 ⟨rfl, h5, g5⟩
  have R5 := R4.grown g5 (by simp; omega)
  have G5 := grown_same G4 g5
  clear R4 h4 G4 g5
  go_wp2_with fail
  refine (N4.out _ h5).mono ?_
  rintro e u6 ⟨rfl, h6, g6⟩
  have R6 := R5.grown g6 (by simp; omega)
  have G6 := grown_same G5 g6
  clear R5 h5 G5 g6
  go_wp2_with fail
  refine (N5.out _ h6).mono ?_
  rintro e u7 ⟨rfl, h7, g7⟩
  have R7 := R6.grown g7 (by simp; omega)
  have G7 := grown_same G6 g7
  clear R6 h6 G6 g7
  go_wp2_with fail
  refine (N6.out _ h7).mono ?_
  rintro e u8 ⟨rfl, h8, g8⟩
  have R8 := R7.grown g8 (by simp; omega)
  have G8 := grown_same G7 g8
  clear R7 h7 G7 g8
  go_wp2_with (first
    | (refine build_blk (t := 111) (inC ⟨ofF n1, b2, (n3 : Int), v4, v5, (n6 : Int)⟩) (by rfl) rfl (by kernel_rfl) ?_)
    | (refine store_blk (k := 0) 111 (.agg (inC ⟨ofF n1, b2, (n3 : Int), v4, v5, (n6 : Int)⟩)) (inC ⟨ofF n1, b2, (n3 : Int), v4, v5, (n6 : Int)⟩) (by rfl) rfl rfl rfl R8 (by kernel_rfl) (show (19 : Nat) ≤ 19 from Nat.le_refl 19) (by rfl) (st_whole _ _ rfl) ?_; intro wz RZ bz gz; have HZ := h8.other R8 (by decide) (by decide) gz; have GZ := grown_own G8 gz (Nat.le_refl _)))
  exact bodyPost_ret (results_blk rfl rfl RZ (by kernel_rfl) (by kernel_rfl)) rfl ⟨by rw [HV.out], HZ, GZ⟩

end Go.Proofs.YtdjljnpbnhampaaDoor

namespace Go.Proofs.YtdjljnpbnhampaaDoor
open Go.RowKit
set_option linter.unusedVariables false
set_option linter.unusedSimpArgs false

theorem rc_go (l : List UInt8) (st : RSt) (h : st.2.1 = 0) (hn : st.1 + 2 ≤ l.length) (hz : okLen (beN ((l.drop st.1).take 2)) = true) : rcS l st = (st.1 + 2, st.2) ∧ rcN l st = (beN ((l.drop st.1).take 2) - 64) / 16 := by
  obtain ⟨a1, a2⟩ := nm_go l st 2 (by decide) (by decide) h hn
  have a1' : nmS l 0 st 2 = (st.1 + 2, st.2) := a1
  have a2' : nmV l 0 st 2 = beN ((l.drop st.1).take 2) := a2
  unfold rcS rcN
  rw [a2', hz, a1']
  exact ⟨rfl, rfl⟩

theorem rc_form (l : List UInt8) (st : RSt) (h : st.2.1 = 0) (hn : st.1 + 2 ≤ l.length) (hz : ¬ okLen (beN ((l.drop st.1).take 2)) = true) : (rcS l st).2 = (2, (st.1 : Int)) := by
  obtain ⟨a1, a2⟩ := nm_go l st 2 (by decide) (by decide) h hn
  have a1' : nmS l 0 st 2 = (st.1 + 2, st.2) := a1
  have a2' : nmV l 0 st 2 = beN ((l.drop st.1).take 2) := a2
  unfold rcS
  rw [a2', if_neg hz, a1']
  unfold flR
  rw [if_neg (by simpa using h)]

theorem rc_miss (l : List UInt8) (st : RSt) (h : st.2.1 = 0) (hn : ¬ st.1 + 2 ≤ l.length) (hp : st.1 ≤ l.length) : rcS l st = (st.1, 7, (st.1 : Int)) := by
  have a1 : nmS l 0 st 2 = (st.1, 7, (st.1 : Int)) := nm_miss l st 2 (by decide) (by decide) h hn hp
  unfold rcS
  rw [a1]
  split
  · rfl
  · exact flR_bad _ 2 _ (by simp)

theorem rc_bad (l : List UInt8) (st : RSt) (h : ¬ st.2.1 = 0) : rcS l st = st := by
  have a1 : nmS l 0 st 2 = st := nm_bad l st 2 h
  unfold rcS
  rw [a1]
  split
  · rfl
  · exact flR_bad _ 2 _ h

theorem tk_go (l : List UInt8) (st : RSt) (n : Nat) (h : st.2.1 = 0) (hn : st.1 + n ≤ l.length) : tkN l 0 st (n : Int) false = ((l.drop st.1).take n, st.1 + n, st.2) := tkN_go l 0 st n false h hn (by simp)

theorem tk_miss (l : List UInt8) (st : RSt) (n : Nat) (h : st.2.1 = 0) (hn : ¬ st.1 + n ≤ l.length) (hp : st.1 ≤ l.length) : (tkN l 0 st (n : Int) false).2 = (st.1, 7, (st.1 : Int)) := by
  rw [tkN_miss l 0 st n false h hn hp (by simp)]
  simp

/-- The states of a reader of a message, one behind the other. -/
def mh1 (l : List UInt8) : RSt := exS l (0, 0, -1) [0, 0, 3, 2]

def mh2 (l : List UInt8) : RSt := sb9 l 0 (mh1 l)

def mh3 (l : List UInt8) : RSt := exS l (mh2 l) [0]

def mh4 (l : List UInt8) : RSt := rcS l (mh3 l)

def mh5 (l : List UInt8) : RSt := exS l (mh4 l) [0]

def mh6 (l : List UInt8) : RSt := (tkN l 0 (mh5 l) 32 false).2

def mh7 (l : List UInt8) : RSt := nmS l 0 (mh6 l) 2

def mh8 (l : List UInt8) : RSt := (tkN l 0 (mh7 l) 16 false).2

def mh9 (l : List UInt8) : RSt := nmS l 0 (mh8 l) 4

def mh10 (l : List UInt8) : RSt := rdBs l 0 (mh9 l)

def mh11 (l : List UInt8) : RSt := nmS l 0 (mh10 l) 1

/-- What is read. -/
def rdMs (l : List UInt8) : Ms := ⟨rbB l 0 (mh1 l) 3, ⟨(Lib.trimRightB (tkN l 0 (mh5 l) 32 false).1 0).toArray⟩, (nmV l 0 (mh6 l) 2 : Nat), ⟨(tkN l 0 (mh7 l) 16 false).1.toArray⟩, (nmV l 0 (mh8 l) 4 : Nat), rdB l 0 (mh9 l), (nmV l 0 (mh10 l) 1 : Nat)⟩

/-- The states of a reader of instances. -/
def itS (l : List UInt8) (st : RSt) : Nat → RSt
  | 0 => st
  | k + 1 => si6 l (itS l st k)

def itV (l : List UInt8) (st : RSt) (n : Nat) : List Ins := (List.range n).map fun k => riV l (itS l st k)

theorem itV_succ (l : List UInt8) (st : RSt) (n : Nat) : itV l st (n + 1) = itV l st n ++ [riV l (itS l st n)] := by
  unfold itV
  rw [List.range_succ, List.map_append]
  rfl

theorem itV_len (l : List UInt8) (st : RSt) (n : Nat) : (itV l st n).length = n := by simp [itV]

theorem itS_le (l : List UInt8) (st : RSt) (h : st.1 ≤ l.length) : ∀ n, (itS l st n).1 ≤ l.length
  | 0 => h
  | n + 1 => si6_le l _ (itS_le l st h n)

/-- What lies there. -/
def inAt (s : ByteArray) (p : Nat) : Ins := ⟨ofF (numAt s p 1), brAt s (p + 1), (numAt s (p + 9) 4 : Nat), (numAt s (p + 13) 1 / 16 : Nat), (numAt s (p + 14) 1 / 16 : Nat), (numAt s (p + 15) 1 : Nat)⟩

def bsAt (s : ByteArray) (p n : Nat) : List UInt8 := (s.data.toList.drop p).take n

def msAt (s : ByteArray) : Ms := ⟨bpAt s 4 3, ⟨(Lib.trimRightB (bsAt s 39 32) 0).toArray⟩, (numAt s 71 2 : Nat), ⟨(bsAt s 73 16).toArray⟩, (numAt s 89 4 : Nat), brAt s 93, (numAt s 101 1 : Nat)⟩

def cntAt (s : ByteArray) : Nat := (numAt s 36 2 - 64) / 16

def insAt (s : ByteArray) (p n : Nat) : List Ins := (List.range n).map fun k => inAt s (p + 16 * k)

theorem insAt_succ (s : ByteArray) (p n : Nat) : insAt s p (n + 1) = insAt s p n ++ [inAt s (p + 16 * n)] := by
  unfold insAt
  rw [List.range_succ, List.map_append]
  rfl

theorem insAt_len (s : ByteArray) (p n : Nat) : (insAt s p n).length = n := by simp [insAt]

/-- What is wrong first, and where: ahead of the instances; in one; in all. -/
def mE (s : ByteArray) : Option (Int × Nat) :=
  if s.size < 4 then some (7, 0) else
  if ¬ hdAt s = [0, 0, 3, 2] then some (3, 0) else
  if (bdE s.size 4 (pzAt s 25)).isSome = true then bdE s.size 4 (pzAt s 25) else
  if s.size < 36 then some (7, 35) else
  if ¬ bsAt s 35 1 = [0] then some (3, 35) else
  if s.size < 38 then some (7, 36) else
  if ¬ okLen (numAt s 36 2) = true then some (2, 36) else
  if s.size < 39 then some (7, 38) else
  if ¬ bsAt s 38 1 = [0] then some (3, 38) else
  if s.size < 71 then some (7, 39) else
  if s.size < 73 then some (7, 71) else
  if s.size < 89 then some (7, 73) else
  if s.size < 93 then some (7, 89) else
  if s.size < 95 then some (7, 93) else
  if s.size < 101 then some (7, 95) else
  if s.size < 102 then some (7, 101) else
  none

def inE (n p : Nat) : Option (Int × Nat) :=
  if n < p + 1 then some (7, p) else
  if n < p + 3 then some (7, p + 1) else
  if n < p + 9 then some (7, p + 3) else
  if n < p + 13 then some (7, p + 9) else
  if n < p + 14 then some (7, p + 13) else
  if n < p + 15 then some (7, p + 14) else
  if n < p + 16 then some (7, p + 15) else
  none

def insE (n p : Nat) : Nat → Option (Int × Nat)
  | 0 => none
  | k + 1 => if (insE n p k).isSome = true then insE n p k else inE n (p + 16 * k)

def allE (s : ByteArray) : Option (Int × Nat) := if (mE s).isSome = true then mE s else insE s.size 102 (cntAt s)

theorem si6_bad (l : List UInt8) (st : RSt) (h : ¬ st.2.1 = 0) : si6 l st = st := by
  have e1 : si1 l st = st := nm_bad l st 1 h
  have e2 : si2 l st = st := by unfold si2; rw [e1]; exact br_bad l st h
  have e3 : si3 l st = st := by unfold si3; rw [e2]; exact nm_bad l st 4 h
  have e4 : si4 l st = st := by unfold si4; rw [e3]; exact nm_bad l st 1 h
  have e5 : si5 l st = st := by unfold si5; rw [e4]; exact nm_bad l st 1 h
  unfold si6; rw [e5]; exact nm_bad l st 1 h

theorem itS_bad (l : List UInt8) (st : RSt) (h : ¬ st.2.1 = 0) : ∀ n, itS l st n = st
  | 0 => rfl
  | n + 1 => by
    show si6 l (itS l st n) = st
    rw [itS_bad l st h n]
    exact si6_bad l st h

section
variable (l : List UInt8) (st : RSt)

theorem ibad5 (h : ¬ (si5 l st).2.1 = 0) : si6 l st = si5 l st := nm_bad l _ 1 h

theorem ibad4 (h : ¬ (si4 l st).2.1 = 0) : si6 l st = si4 l st := by
  have e : si5 l st = si4 l st := nm_bad l _ 1 h
  rw [ibad5 l st (by rw [e]; exact h), e]

theorem ibad3 (h : ¬ (si3 l st).2.1 = 0) : si6 l st = si3 l st := by
  have e : si4 l st = si3 l st := nm_bad l _ 1 h
  rw [ibad4 l st (by rw [e]; exact h), e]

theorem ibad2 (h : ¬ (si2 l st).2.1 = 0) : si6 l st = si2 l st := by
  have e : si3 l st = si2 l st := nm_bad l _ 4 h
  rw [ibad3 l st (by rw [e]; exact h), e]

theorem ibad1 (h : ¬ (si1 l st).2.1 = 0) : si6 l st = si1 l st := by
  have e : si2 l st = si1 l st := br_bad l _ h
  rw [ibad2 l st (by rw [e]; exact h), e]
end

/-- An instance, both ways. -/
theorem in_ways (s : ByteArray) (p : Nat) (hp : p ≤ s.size) :
    (∃ e x, inE s.size p = some (e, x) ∧ e ≠ 0 ∧ (si6 s.data.toList (p, 0, -1)).2 = (e, (x : Int))) ∨
    (inE s.size p = none ∧ p + 16 ≤ s.size ∧ si6 s.data.toList (p, 0, -1) = (p + 16, 0, -1) ∧ riV s.data.toList (p, 0, -1) = inAt s p) := by
  have hl : s.data.toList.length = s.size := by simp
  generalize hL : s.data.toList = l at *
  have hbe : ∀ q, beAt s q = beN ((l.drop q).take 2) := fun q => by unfold beAt; rw [hL]
  have hnu : ∀ q n, numAt s q n = beN ((l.drop q).take n) := fun q n => by unfold numAt; rw [hL]
  by_cases q0 : s.size < p + 1
  · refine Or.inl ⟨7, p, by unfold inE; simp only [if_pos q0], by decide, ?_⟩
    have e : si1 l (p, 0, -1) = (p, 7, ((p : Nat) : Int)) := by
      have e := nm_miss l (p, 0, -1) 1 (by decide) (by decide) (by rfl) (by show ¬ p + 1 ≤ l.length; omega) (by show p ≤ l.length; omega)
      exact e
    rw [ibad1 l _ (by rw [e]; simp), e]
  obtain ⟨e1, v1⟩ := nm_go l (p, 0, -1) 1 (by decide) (by decide) (by rfl) (by show p + 1 ≤ l.length; omega)
  replace e1 : si1 l (p, 0, -1) = (p + 1, 0, -1) := e1
  by_cases q1 : s.size < p + 3
  · refine Or.inl ⟨7, p + 1, by unfold inE; simp only [if_neg q0, if_pos q1], by decide, ?_⟩
    have e : si2 l (p, 0, -1) = (p + 1, 7, ((p + 1 : Nat) : Int)) := by
      have e := br_miss1 l (si1 l (p, 0, -1)) (by rw [e1]) (by rw [e1]; show ¬ p + 1 + 2 ≤ l.length; omega) (by rw [e1]; show p + 1 ≤ l.length; omega)
      rw [e1] at e
      unfold si2; rw [e1]; exact e
    rw [ibad2 l _ (by rw [e]; simp), e]
  by_cases q3 : s.size < p + 9
  · refine Or.inl ⟨7, p + 3, by unfold inE; simp only [if_neg q0, if_neg q1, if_pos q3], by decide, ?_⟩
    have e : si2 l (p, 0, -1) = (p + 3, 7, ((p + 3 : Nat) : Int)) := by
      have e := br_miss2 l (si1 l (p, 0, -1)) (by rw [e1]) (by rw [e1]; show p + 1 + 2 ≤ l.length; omega) (by rw [e1]; show ¬ p + 1 + 8 ≤ l.length; omega)
      rw [e1] at e
      unfold si2; rw [e1]; exact e
    rw [ibad2 l _ (by rw [e]; simp), e]
  obtain ⟨e2, v2⟩ := br_go l (si1 l (p, 0, -1)) (by rw [e1]) (by rw [e1]; show p + 1 + 8 ≤ l.length; omega)
  rw [e1] at e2 v2
  replace e2 : si2 l (p, 0, -1) = (p + 9, 0, -1) := by unfold si2; rw [e1]; exact e2
  by_cases q9 : s.size < p + 13
  · refine Or.inl ⟨7, p + 9, by unfold inE; simp only [if_neg q0, if_neg q1, if_neg q3, if_pos q9], by decide, ?_⟩
    have e : si3 l (p, 0, -1) = (p + 9, 7, ((p + 9 : Nat) : Int)) := by
      have e := nm_miss l (si2 l (p, 0, -1)) 4 (by decide) (by decide) (by rw [e2]) (by rw [e2]; show ¬ p + 9 + 4 ≤ l.length; omega) (by rw [e2]; show p + 9 ≤ l.length; omega)
      rw [e2] at e
      unfold si3; rw [e2]
      exact e
    rw [ibad3 l _ (by rw [e]; simp), e]
  obtain ⟨e3, v3⟩ := nm_go l (si2 l (p, 0, -1)) 4 (by decide) (by decide) (by rw [e2]) (by rw [e2]; show p + 9 + 4 ≤ l.length; omega)
  rw [e2] at e3 v3
  replace e3 : si3 l (p, 0, -1) = (p + 13, 0, -1) := by unfold si3; rw [e2]; exact e3
  by_cases q13 : s.size < p + 14
  · refine Or.inl ⟨7, p + 13, by unfold inE; simp only [if_neg q0, if_neg q1, if_neg q3, if_neg q9, if_pos q13], by decide, ?_⟩
    have e : si4 l (p, 0, -1) = (p + 13, 7, ((p + 13 : Nat) : Int)) := by
      have e := nm_miss l (si3 l (p, 0, -1)) 1 (by decide) (by decide) (by rw [e3]) (by rw [e3]; show ¬ p + 13 + 1 ≤ l.length; omega) (by rw [e3]; show p + 13 ≤ l.length; omega)
      rw [e3] at e
      unfold si4; rw [e3]
      exact e
    rw [ibad4 l _ (by rw [e]; simp), e]
  obtain ⟨e4, v4⟩ := nm_go l (si3 l (p, 0, -1)) 1 (by decide) (by decide) (by rw [e3]) (by rw [e3]; show p + 13 + 1 ≤ l.length; omega)
  rw [e3] at e4 v4
  replace e4 : si4 l (p, 0, -1) = (p + 14, 0, -1) := by unfold si4; rw [e3]; exact e4
  by_cases q14 : s.size < p + 15
  · refine Or.inl ⟨7, p + 14, by unfold inE; simp only [if_neg q0, if_neg q1, if_neg q3, if_neg q9, if_neg q13, if_pos q14], by decide, ?_⟩
    have e : si5 l (p, 0, -1) = (p + 14, 7, ((p + 14 : Nat) : Int)) := by
      have e := nm_miss l (si4 l (p, 0, -1)) 1 (by decide) (by decide) (by rw [e4]) (by rw [e4]; show ¬ p + 14 + 1 ≤ l.length; omega) (by rw [e4]; show p + 14 ≤ l.length; omega)
      rw [e4] at e
      unfold si5; rw [e4]
      exact e
    rw [ibad5 l _ (by rw [e]; simp), e]
  obtain ⟨e5, v5⟩ := nm_go l (si4 l (p, 0, -1)) 1 (by decide) (by decide) (by rw [e4]) (by rw [e4]; show p + 14 + 1 ≤ l.length; omega)
  rw [e4] at e5 v5
  replace e5 : si5 l (p, 0, -1) = (p + 15, 0, -1) := by unfold si5; rw [e4]; exact e5
  by_cases q15 : s.size < p + 16
  · refine Or.inl ⟨7, p + 15, by unfold inE; simp only [if_neg q0, if_neg q1, if_neg q3, if_neg q9, if_neg q13, if_neg q14, if_pos q15], by decide, ?_⟩
    have e : si6 l (p, 0, -1) = (p + 15, 7, ((p + 15 : Nat) : Int)) := by
      have e := nm_miss l (si5 l (p, 0, -1)) 1 (by decide) (by decide) (by rw [e5]) (by rw [e5]; show ¬ p + 15 + 1 ≤ l.length; omega) (by rw [e5]; show p + 15 ≤ l.length; omega)
      rw [e5] at e
      unfold si6; rw [e5]
      exact e
    rw [e]
  obtain ⟨e6, v6⟩ := nm_go l (si5 l (p, 0, -1)) 1 (by decide) (by decide) (by rw [e5]) (by rw [e5]; show p + 15 + 1 ≤ l.length; omega)
  rw [e5] at e6 v6
  replace e6 : si6 l (p, 0, -1) = (p + 16, 0, -1) := by unfold si6; rw [e5]; exact e6
  refine Or.inr ⟨by unfold inE; simp only [if_neg q0, if_neg q1, if_neg q3, if_neg q9, if_neg q13, if_neg q14, if_neg q15], by omega, e6, ?_⟩
  unfold riV inAt
  rw [e1, e2, e3, e4, e5]
  have w1 : nmV l 0 (p, 0, -1) 1 = numAt s p 1 := by rw [hnu]; exact v1
  have w2 : rdB l 0 (p + 1, 0, -1) = brAt s (p + 1) := by unfold brAt; rw [hbe, hL]; exact v2
  have w3 : nmV l 0 (p + 9, 0, -1) 4 = numAt s (p + 9) 4 := by rw [hnu]; exact v3
  have w4 : nmV l 0 (p + 13, 0, -1) 1 = numAt s (p + 13) 1 := by rw [hnu]; exact v4
  have w5 : nmV l 0 (p + 14, 0, -1) 1 = numAt s (p + 14) 1 := by rw [hnu]; exact v5
  have w6 : nmV l 0 (p + 15, 0, -1) 1 = numAt s (p + 15) 1 := by rw [hnu]; exact v6
  rw [w1, w2, w3, w4, w5, w6]

/-- All instances, both ways. -/
theorem it_ways (s : ByteArray) (p : Nat) (hp : p ≤ s.size) : ∀ n,
    (∃ e x, insE s.size p n = some (e, x) ∧ e ≠ 0 ∧ (itS s.data.toList (p, 0, -1) n).2 = (e, (x : Int))) ∨
    (insE s.size p n = none ∧ p + 16 * n ≤ s.size ∧ itS s.data.toList (p, 0, -1) n = (p + 16 * n, 0, -1) ∧ itV s.data.toList (p, 0, -1) n = insAt s p n)
  | 0 => Or.inr ⟨rfl, by omega, rfl, rfl⟩
  | n + 1 => by
    rcases it_ways s p hp n with ⟨e, x, h1, h2, h3⟩ | ⟨h1, h2, h3, h4⟩
    · left
      refine ⟨e, x, ?_, h2, ?_⟩
      · show (if (insE s.size p n).isSome = true then insE s.size p n else inE s.size (p + 16 * n)) = _
        rw [h1]
        rfl
      · show (si6 s.data.toList (itS s.data.toList (p, 0, -1) n)).2 = _
        rw [si6_bad _ _ (by rw [h3]; exact h2), h3]
    · have hE : insE s.size p (n + 1) = inE s.size (p + 16 * n) := by
        show (if (insE s.size p n).isSome = true then insE s.size p n else inE s.size (p + 16 * n)) = _
        rw [h1]
        rfl
      have hS : itS s.data.toList (p, 0, -1) (n + 1) = si6 s.data.toList (p + 16 * n, 0, -1) := by
        show si6 s.data.toList (itS s.data.toList (p, 0, -1) n) = _
        rw [h3]
      rcases in_ways s (p + 16 * n) h2 with ⟨e, x, g1, g2, g3⟩ | ⟨g1, g2, g3, g4⟩
      · exact Or.inl ⟨e, x, by rw [hE, g1], g2, by rw [hS, g3]⟩
      · refine Or.inr ⟨by rw [hE, g1], by omega, by rw [hS, g3, show p + 16 * n + 16 = p + 16 * (n + 1) by omega], ?_⟩
        rw [itV_succ, insAt_succ, h4, h3, g4]

theorem cfB_three (b : Bp) (h : b.k = 3) : cfB b = b := by
  unfold cfB
  rw [if_neg (by omega)]
section
variable (l : List UInt8)

theorem hbad10 (h : ¬ (mh10 l).2.1 = 0) : mh11 l = mh10 l := nm_bad l _ 1 h

theorem hbad9 (h : ¬ (mh9 l).2.1 = 0) : mh11 l = mh9 l := by
  have e : mh10 l = mh9 l := br_bad l _ h
  rw [hbad10 l (by rw [e]; exact h), e]

theorem hbad8 (h : ¬ (mh8 l).2.1 = 0) : mh11 l = mh8 l := by
  have e : mh9 l = mh8 l := nm_bad l _ 4 h
  rw [hbad9 l (by rw [e]; exact h), e]

theorem hbad7 (h : ¬ (mh7 l).2.1 = 0) : mh11 l = mh7 l := by
  have e : mh8 l = mh7 l := (by unfold mh8; rw [tkN_bad l 0 _ _ false h])
  rw [hbad8 l (by rw [e]; exact h), e]

theorem hbad6 (h : ¬ (mh6 l).2.1 = 0) : mh11 l = mh6 l := by
  have e : mh7 l = mh6 l := nm_bad l _ 2 h
  rw [hbad7 l (by rw [e]; exact h), e]

theorem hbad5 (h : ¬ (mh5 l).2.1 = 0) : mh11 l = mh5 l := by
  have e : mh6 l = mh5 l := (by unfold mh6; rw [tkN_bad l 0 _ _ false h])
  rw [hbad6 l (by rw [e]; exact h), e]

theorem hbad4 (h : ¬ (mh4 l).2.1 = 0) : mh11 l = mh4 l := by
  have e : mh5 l = mh4 l := ex_bad l _ [0] (by simp) h
  rw [hbad5 l (by rw [e]; exact h), e]

theorem hbad3 (h : ¬ (mh3 l).2.1 = 0) : mh11 l = mh3 l := by
  have e : mh4 l = mh3 l := rc_bad l _ h
  rw [hbad4 l (by rw [e]; exact h), e]

theorem hbad2 (h : ¬ (mh2 l).2.1 = 0) : mh11 l = mh2 l := by
  have e : mh3 l = mh2 l := ex_bad l _ [0] (by simp) h
  rw [hbad3 l (by rw [e]; exact h), e]

theorem sb_bad (st : RSt) (h : ¬ st.2.1 = 0) : sb9 l 0 st = st := by
  have e : sb1 l 0 st = st := nm_bad l st 1 h
  rw [bad1 l st (by rw [e]; exact h), e]

theorem hbad1 (h : ¬ (mh1 l).2.1 = 0) : mh11 l = mh1 l := by
  have e : mh2 l = mh1 l := sb_bad l _ h
  rw [hbad2 l (by rw [e]; exact h), e]
end

/-- The head, both ways. -/
theorem head_ways (s : ByteArray) :
    (∃ e x, mE s = some (e, x) ∧ e ≠ 0 ∧ (mh11 s.data.toList).2 = (e, (x : Int))) ∨
    (mE s = none ∧ 102 ≤ s.size ∧ okLen (numAt s 36 2) = true ∧ mh11 s.data.toList = (102, 0, -1) ∧ rcN s.data.toList (mh3 s.data.toList) = cntAt s ∧ rdMs s.data.toList = msAt s) := by
  have hl : s.data.toList.length = s.size := by simp
  have hsb := sb_ways s 4
  generalize hL : s.data.toList = l at *
  have hbe : ∀ q, beAt s q = beN ((l.drop q).take 2) := fun q => by unfold beAt; rw [hL]
  have hnu : ∀ q n, numAt s q n = beN ((l.drop q).take n) := fun q n => by unfold numAt; rw [hL]
  have hbs : ∀ q n, bsAt s q n = (l.drop q).take n := fun q n => by unfold bsAt; rw [hL]
  have hhd : hdAt s = (l.drop 0).take 4 := by unfold hdAt; rw [hL]
  by_cases q0 : s.size < 4
  · refine Or.inl ⟨7, 0, by unfold mE; simp only [if_pos q0], by decide, ?_⟩
    have e : mh1 l = (0, 7, ((0 : Nat) : Int)) := by
      exact ex_miss l (0, 0, -1) [0, 0, 3, 2] (by simp) rfl (by show ¬ 0 + 4 ≤ l.length; omega) (Nat.zero_le _)
    rw [hbad1 l (by rw [e]; simp), e]
  by_cases q1 : ¬ hdAt s = [0, 0, 3, 2]
  · refine Or.inl ⟨3, 0, by unfold mE; simp only [if_neg q0, if_pos q1], by decide, ?_⟩
    have e : (mh1 l).2 = (3, ((0 : Nat) : Int)) := ex_form l (0, 0, -1) [0, 0, 3, 2] rfl (by show 0 + 4 ≤ l.length; omega) (show ¬ (l.drop 0).take 4 = [0, 0, 3, 2] by rw [← hhd]; exact q1)
    rw [hbad1 l (by rw [e]; simp), e]
  have e1 : mh1 l = (4, 0, -1) := ex_go l (0, 0, -1) [0, 0, 3, 2] rfl (by show 0 + 4 ≤ l.length; omega) (show (l.drop 0).take 4 = [0, 0, 3, 2] by rw [← hhd]; exact Classical.not_not.1 q1)
  rcases hsb (by omega) 3 with ⟨e, x, h1, h2, h3⟩ | ⟨h1, h2, h3⟩
  · refine Or.inl ⟨e, x, by unfold mE; simp only [if_neg q0, if_neg q1]; rw [h1]; rfl, h2, ?_⟩
    have e2 : (mh2 l).2 = (e, (x : Int)) := by unfold mh2; rw [e1]; exact h3
    rw [hbad2 l (by rw [e2]; exact h2), e2]
  have q2 : ¬ (bdE s.size 4 (pzAt s 25)).isSome = true := by rw [h1]; simp
  have h35 := (bdE_full h1).1
  have e2 : mh2 l = (35, 0, -1) := by unfold mh2; rw [e1]; exact h2
  by_cases q3 : s.size < 36
  · refine Or.inl ⟨7, 35, by unfold mE; simp only [if_neg q0, if_neg q1, if_neg q2, if_pos q3], by decide, ?_⟩
    have e : mh3 l = (35, 7, ((35 : Nat) : Int)) := by
      have e := ex_miss l (mh2 l) [0] (by simp) (by rw [e2]) (by rw [e2]; show ¬ 35 + 1 ≤ l.length; omega) (by rw [e2]; show 35 ≤ l.length; omega)
      rw [e2] at e
      unfold mh3; rw [e2]; exact e
    rw [hbad3 l (by rw [e]; simp), e]
  by_cases q4 : ¬ bsAt s 35 1 = [0]
  · refine Or.inl ⟨3, 35, by unfold mE; simp only [if_neg q0, if_neg q1, if_neg q2, if_neg q3, if_pos q4], by decide, ?_⟩
    have e : (mh3 l).2 = (3, ((35 : Nat) : Int)) := by
      have e := ex_form l (mh2 l) [0] (by rw [e2]) (by rw [e2]; show 35 + 1 ≤ l.length; omega) (by rw [e2, ← hbs]; exact (show ¬ bsAt s 35 1 = [0] from q4))
      rw [e2] at e
      unfold mh3; rw [e2]; exact e
    rw [hbad3 l (by rw [e]; simp), e]
  have e3 : mh3 l = (36, 0, -1) := by
    have e := ex_go l (mh2 l) [0] (by rw [e2]) (by rw [e2]; show 35 + 1 ≤ l.length; omega) (by rw [e2, ← hbs]; exact Classical.not_not.1 q4)
    rw [e2] at e
    unfold mh3; rw [e2]; exact e
  by_cases q5 : s.size < 38
  · refine Or.inl ⟨7, 36, by unfold mE; simp only [if_neg q0, if_neg q1, if_neg q2, if_neg q3, if_neg q4, if_pos q5], by decide, ?_⟩
    have e : mh4 l = (36, 7, ((36 : Nat) : Int)) := by
      have e := rc_miss l (mh3 l) (by rw [e3]) (by rw [e3]; show ¬ 36 + 2 ≤ l.length; omega) (by rw [e3]; show 36 ≤ l.length; omega)
      rw [e3] at e
      unfold mh4; rw [e3]; exact e
    rw [hbad4 l (by rw [e]; simp), e]
  by_cases q6 : ¬ okLen (numAt s 36 2) = true
  · refine Or.inl ⟨2, 36, by unfold mE; simp only [if_neg q0, if_neg q1, if_neg q2, if_neg q3, if_neg q4, if_neg q5, if_pos q6], by decide, ?_⟩
    have e : (mh4 l).2 = (2, ((36 : Nat) : Int)) := by
      have e := rc_form l (mh3 l) (by rw [e3]) (by rw [e3]; show 36 + 2 ≤ l.length; omega) (by rw [e3, ← hnu]; exact q6)
      rw [e3] at e
      unfold mh4; rw [e3]; exact e
    rw [hbad4 l (by rw [e]; simp), e]
  obtain ⟨e4, v4⟩ := rc_go l (mh3 l) (by rw [e3]) (by rw [e3]; show 36 + 2 ≤ l.length; omega) (by rw [e3, ← hnu]; exact Classical.not_not.1 q6)
  rw [e3] at e4
  rw [show (mh3 l).1 = 36 by rw [e3], ← hnu] at v4
  replace e4 : mh4 l = (38, 0, -1) := by unfold mh4; rw [e3]; exact e4
  by_cases q7 : s.size < 39
  · refine Or.inl ⟨7, 38, by unfold mE; simp only [if_neg q0, if_neg q1, if_neg q2, if_neg q3, if_neg q4, if_neg q5, if_neg q6, if_pos q7], by decide, ?_⟩
    have e : mh5 l = (38, 7, ((38 : Nat) : Int)) := by
      have e := ex_miss l (mh4 l) [0] (by simp) (by rw [e4]) (by rw [e4]; show ¬ 38 + 1 ≤ l.length; omega) (by rw [e4]; show 38 ≤ l.length; omega)
      rw [e4] at e
      unfold mh5; rw [e4]; exact e
    rw [hbad5 l (by rw [e]; simp), e]
  by_cases q8 : ¬ bsAt s 38 1 = [0]
  · refine Or.inl ⟨3, 38, by unfold mE; simp only [if_neg q0, if_neg q1, if_neg q2, if_neg q3, if_neg q4, if_neg q5, if_neg q6, if_neg q7, if_pos q8], by decide, ?_⟩
    have e : (mh5 l).2 = (3, ((38 : Nat) : Int)) := by
      have e := ex_form l (mh4 l) [0] (by rw [e4]) (by rw [e4]; show 38 + 1 ≤ l.length; omega) (by rw [e4, ← hbs]; exact (show ¬ bsAt s 38 1 = [0] from q8))
      rw [e4] at e
      unfold mh5; rw [e4]; exact e
    rw [hbad5 l (by rw [e]; simp), e]
  have e5 : mh5 l = (39, 0, -1) := by
    have e := ex_go l (mh4 l) [0] (by rw [e4]) (by rw [e4]; show 38 + 1 ≤ l.length; omega) (by rw [e4, ← hbs]; exact Classical.not_not.1 q8)
    rw [e4] at e
    unfold mh5; rw [e4]; exact e
  by_cases q9 : s.size < 71
  · refine Or.inl ⟨7, 39, by unfold mE; simp only [if_neg q0, if_neg q1, if_neg q2, if_neg q3, if_neg q4, if_neg q5, if_neg q6, if_neg q7, if_neg q8, if_pos q9], by decide, ?_⟩
    have e : mh6 l = (39, 7, ((39 : Nat) : Int)) := by
      have e := tk_miss l (mh5 l) 32 (by rw [e5]) (by rw [e5]; show ¬ 39 + 32 ≤ l.length; omega) (by rw [e5]; show 39 ≤ l.length; omega)
      rw [e5] at e
      unfold mh6; rw [e5]; exact e
    rw [hbad6 l (by rw [e]; simp), e]
  have f6 : tkN l 0 (39, 0, -1) 32 false = ((l.drop 39).take 32, 71, 0, -1) := tk_go l (39, 0, -1) 32 rfl (by show 39 + 32 ≤ l.length; omega)
  have e6 : mh6 l = (71, 0, -1) := by unfold mh6; rw [e5, f6]
  by_cases q10 : s.size < 73
  · refine Or.inl ⟨7, 71, by unfold mE; simp only [if_neg q0, if_neg q1, if_neg q2, if_neg q3, if_neg q4, if_neg q5, if_neg q6, if_neg q7, if_neg q8, if_neg q9, if_pos q10], by decide, ?_⟩
    have e : mh7 l = (71, 7, ((71 : Nat) : Int)) := by
      have e := nm_miss l (mh6 l) 2 (by decide) (by decide) (by rw [e6]) (by rw [e6]; show ¬ 71 + 2 ≤ l.length; omega) (by rw [e6]; show 71 ≤ l.length; omega)
      rw [e6] at e
      unfold mh7; rw [e6]; exact e
    rw [hbad7 l (by rw [e]; simp), e]
  obtain ⟨e7, v7⟩ := nm_go l (mh6 l) 2 (by decide) (by decide) (by rw [e6]) (by rw [e6]; show 71 + 2 ≤ l.length; omega)
  rw [e6] at e7 v7
  replace e7 : mh7 l = (73, 0, -1) := by unfold mh7; rw [e6]; exact e7
  by_cases q11 : s.size < 89
  · refine Or.inl ⟨7, 73, by unfold mE; simp only [if_neg q0, if_neg q1, if_neg q2, if_neg q3, if_neg q4, if_neg q5, if_neg q6, if_neg q7, if_neg q8, if_neg q9, if_neg q10, if_pos q11], by decide, ?_⟩
    have e : mh8 l = (73, 7, ((73 : Nat) : Int)) := by
      have e := tk_miss l (mh7 l) 16 (by rw [e7]) (by rw [e7]; show ¬ 73 + 16 ≤ l.length; omega) (by rw [e7]; show 73 ≤ l.length; omega)
      rw [e7] at e
      unfold mh8; rw [e7]; exact e
    rw [hbad8 l (by rw [e]; simp), e]
  have f8 : tkN l 0 (73, 0, -1) 16 false = ((l.drop 73).take 16, 89, 0, -1) := tk_go l (73, 0, -1) 16 rfl (by show 73 + 16 ≤ l.length; omega)
  have e8 : mh8 l = (89, 0, -1) := by unfold mh8; rw [e7, f8]
  by_cases q12 : s.size < 93
  · refine Or.inl ⟨7, 89, by unfold mE; simp only [if_neg q0, if_neg q1, if_neg q2, if_neg q3, if_neg q4, if_neg q5, if_neg q6, if_neg q7, if_neg q8, if_neg q9, if_neg q10, if_neg q11, if_pos q12], by decide, ?_⟩
    have e : mh9 l = (89, 7, ((89 : Nat) : Int)) := by
      have e := nm_miss l (mh8 l) 4 (by decide) (by decide) (by rw [e8]) (by rw [e8]; show ¬ 89 + 4 ≤ l.length; omega) (by rw [e8]; show 89 ≤ l.length; omega)
      rw [e8] at e
      unfold mh9; rw [e8]; exact e
    rw [hbad9 l (by rw [e]; simp), e]
  obtain ⟨e9, v9⟩ := nm_go l (mh8 l) 4 (by decide) (by decide) (by rw [e8]) (by rw [e8]; show 89 + 4 ≤ l.length; omega)
  rw [e8] at e9 v9
  replace e9 : mh9 l = (93, 0, -1) := by unfold mh9; rw [e8]; exact e9
  by_cases q13 : s.size < 95
  · refine Or.inl ⟨7, 93, by unfold mE; simp only [if_neg q0, if_neg q1, if_neg q2, if_neg q3, if_neg q4, if_neg q5, if_neg q6, if_neg q7, if_neg q8, if_neg q9, if_neg q10, if_neg q11, if_neg q12, if_pos q13], by decide, ?_⟩
    have e : mh10 l = (93, 7, ((93 : Nat) : Int)) := by
      have e := br_miss1 l (mh9 l) (by rw [e9]) (by rw [e9]; show ¬ 93 + 2 ≤ l.length; omega) (by rw [e9]; show 93 ≤ l.length; omega)
      rw [e9] at e
      unfold mh10; rw [e9]; exact e
    rw [hbad10 l (by rw [e]; simp), e]
  by_cases q14 : s.size < 101
  · refine Or.inl ⟨7, 95, by unfold mE; simp only [if_neg q0, if_neg q1, if_neg q2, if_neg q3, if_neg q4, if_neg q5, if_neg q6, if_neg q7, if_neg q8, if_neg q9, if_neg q10, if_neg q11, if_neg q12, if_neg q13, if_pos q14], by decide, ?_⟩
    have e : mh10 l = (95, 7, ((95 : Nat) : Int)) := by
      have e := br_miss2 l (mh9 l) (by rw [e9]) (by rw [e9]; show 93 + 2 ≤ l.length; omega) (by rw [e9]; show ¬ 93 + 8 ≤ l.length; omega)
      rw [e9] at e
      unfold mh10; rw [e9]; exact e
    rw [hbad10 l (by rw [e]; simp), e]
  obtain ⟨e10, v10⟩ := br_go l (mh9 l) (by rw [e9]) (by rw [e9]; show 93 + 8 ≤ l.length; omega)
  rw [e9] at e10 v10
  replace e10 : mh10 l = (101, 0, -1) := by unfold mh10; rw [e9]; exact e10
  by_cases q15 : s.size < 102
  · refine Or.inl ⟨7, 101, by unfold mE; simp only [if_neg q0, if_neg q1, if_neg q2, if_neg q3, if_neg q4, if_neg q5, if_neg q6, if_neg q7, if_neg q8, if_neg q9, if_neg q10, if_neg q11, if_neg q12, if_neg q13, if_neg q14, if_pos q15], by decide, ?_⟩
    have e : mh11 l = (101, 7, ((101 : Nat) : Int)) := by
      have e := nm_miss l (mh10 l) 1 (by decide) (by decide) (by rw [e10]) (by rw [e10]; show ¬ 101 + 1 ≤ l.length; omega) (by rw [e10]; show 101 ≤ l.length; omega)
      rw [e10] at e
      unfold mh11; rw [e10]; exact e
    rw [e]
  obtain ⟨e11, v11⟩ := nm_go l (mh10 l) 1 (by decide) (by decide) (by rw [e10]) (by rw [e10]; show 101 + 1 ≤ l.length; omega)
  rw [e10] at e11 v11
  replace e11 : mh11 l = (102, 0, -1) := by unfold mh11; rw [e10]; exact e11
  refine Or.inr ⟨by unfold mE; simp only [if_neg q0, if_neg q1, if_neg q2, if_neg q3, if_neg q4, if_neg q5, if_neg q6, if_neg q7, if_neg q8, if_neg q9, if_neg q10, if_neg q11, if_neg q12, if_neg q13, if_neg q14, if_neg q15], by omega, Classical.not_not.1 q6, e11, by rw [v4]; rfl, ?_⟩
  unfold rdMs msAt
  rw [e1, e5, e6, e7, e8, e9, e10, f6, f8]
  have hb : rbB l 0 (4, 0, -1) 3 = bpAt s 4 3 := by
    unfold rbB
    rw [h2, if_pos rfl, h3, cfB_three _ rfl]
  have w7 : nmV l 0 (71, 0, -1) 2 = numAt s 71 2 := by rw [hnu]; exact v7
  have w9 : nmV l 0 (89, 0, -1) 4 = numAt s 89 4 := by rw [hnu]; exact v9
  have w10 : rdB l 0 (93, 0, -1) = brAt s 93 := by unfold brAt; rw [hbe, hL]; exact v10
  have w11 : nmV l 0 (101, 0, -1) 1 = numAt s 101 1 := by rw [hnu]; exact v11
  rw [hb, w7, w9, w10, w11, hbs, hbs]

/-- The state behind the last instance. -/
def mhF (l : List UInt8) : RSt := itS l (mh11 l) (rcN l (mh3 l))

/-- All of it, both ways. -/
theorem all_ways (s : ByteArray) :
    (∃ e x, allE s = some (e, x) ∧ e ≠ 0 ∧ (mhF s.data.toList).2 = (e, (x : Int))) ∨
    (allE s = none ∧ okLen (numAt s 36 2) = true ∧ 102 + 16 * cntAt s ≤ s.size ∧ mhF s.data.toList = (102 + 16 * cntAt s, 0, -1) ∧ rdMs s.data.toList = msAt s ∧ itV s.data.toList (mh11 s.data.toList) (rcN s.data.toList (mh3 s.data.toList)) = insAt s 102 (cntAt s)) := by
  unfold allE mhF
  rcases head_ways s with ⟨e, x, h1, h2, h3⟩ | ⟨h1, h2, h0, h3, h4, h5⟩
  · exact Or.inl ⟨e, x, by rw [h1]; rfl, h2, by rw [itS_bad _ _ (by rw [h3]; exact h2), h3]⟩
  · rw [h1, h3, h4]
    rcases it_ways s 102 h2 (cntAt s) with ⟨e, x, g1, g2, g3⟩ | ⟨g1, g2, g3, g4⟩
    · exact Or.inl ⟨e, x, by rw [g1]; rfl, g2, g3⟩
    · exact Or.inr ⟨by rw [g1]; rfl, h0, g2, g3, h5, g4⟩

end Go.Proofs.YtdjljnpbnhampaaDoor

namespace Go.Proofs.YtdjljnpbnhampaaDoor
open Go.RowKit
set_option linter.unusedVariables false
set_option linter.unusedSimpArgs false

/-- The cells of a message hang on its numbers alone. -/
theorem msC_congr (a b : Ms) (v : Value) (h0 : bpC a.base = bpC b.base) (h1 : a.name = b.name) (h2 : a.rev = b.rev) (h3 : a.dig = b.dig) (h4 : a.cost = b.cost) (h5 : brC a.br = brC b.br) (h6 : a.hop = b.hop) : msC a v = msC b v := by
  obtain ⟨⟨k, ⟨x0, x1, x2, x3, x4, x5, x6⟩, ⟨rp, re, ra⟩, c, ⟨sp, se, sa⟩, pp, pn, t1, t2, t3, t4⟩, nm, rv, dg, co, ⟨bp, be, ba⟩, ho⟩ := a
  obtain ⟨⟨k', ⟨y0, y1, y2, y3, y4, y5, y6⟩, ⟨rp', re', ra'⟩, c', ⟨sp', se', sa'⟩, pp', pn', t1', t2', t3', t4'⟩, nm', rv', dg', co', ⟨bp', be', ba'⟩, ho'⟩ := b
  simp only at h1 h2 h3 h4 h6
  subst h1 h2 h3 h4 h6
  simp only [brC, Array.mk.injEq, List.cons.injEq, Value.int.injEq, true_and, and_true] at h5
  simp only [bpC, Array.mk.injEq, List.cons.injEq, Value.int.injEq, Value.bool.injEq, true_and, and_true] at h0
  obtain ⟨rfl, rfl, rfl, rfl, rfl, rfl, rfl, rfl, rfl, rfl, g2, g3, g4, g5, g6, g7, rfl, rfl, rfl, f2, f3, f4, f5, f6, f7, rfl, rfl, rfl, rfl, rfl, rfl⟩ := h0
  obtain ⟨rfl, rfl, e2, e3, e4, e5, e6, e7⟩ := h5
  simp only [msC, g2, g3, g4, g5, g6, g7, f2, f3, f4, f5, f6, f7, e2, e3, e4, e5, e6, e7]

theorem inC_congr (a b : Ins) (h0 : a.f = b.f) (h1 : brC a.root = brC b.root) (h2 : a.cost = b.cost) (h3 : a.br = b.br) (h4 : a.pt = b.pt) (h5 : a.hop = b.hop) : inC a = inC b := by
  obtain ⟨f, ⟨rp, re, ra⟩, c, x, y, h⟩ := a
  obtain ⟨f', ⟨rp', re', ra'⟩, c', x', y', h'⟩ := b
  simp only at h0 h2 h3 h4 h5
  subst h0 h2 h3 h4 h5
  simp only [brC, Array.mk.injEq, List.cons.injEq, Value.int.injEq, true_and, and_true] at h1
  obtain ⟨rfl, rfl, e2, e3, e4, e5, e6, e7⟩ := h1
  simp only [inC, e2, e3, e4, e5, e6, e7]

theorem drop_rep (n : Nat) (u : List UInt8) : (List.replicate n (0 : UInt8) ++ u).dropWhile (· == 0) = u.dropWhile (· == 0) := by
  induction n with
  | zero => rfl
  | succ n ih => rw [List.replicate_succ, List.cons_append, List.dropWhile_cons_of_pos (by rfl), ih]

theorem trim_pad (l : List UInt8) (n : Nat) (h : (l.getLast? == some 0) = false) : Lib.trimRightB (l ++ List.replicate n 0) 0 = l := by
  unfold Lib.trimRightB
  rw [List.reverse_append, List.reverse_replicate, drop_rep]
  have h2 : l.reverse.dropWhile (· == 0) = l.reverse := by
    rw [List.getLast?_eq_head?_reverse] at h
    generalize l.reverse = u at *
    match u with
    | [] => rfl
    | x :: u =>
      refine List.dropWhile_cons_of_neg ?_
      intro q
      rw [beq_iff_eq] at q
      subst q
      simp at h
  rw [h2, List.reverse_reverse]

theorem trim_len (l : List UInt8) : (Lib.trimRightB l 0).length ≤ l.length := by
  unfold Lib.trimRightB
  rw [List.length_reverse]
  have h := (List.dropWhile_sublist (l := l.reverse) (· == 0)).length_le
  rw [List.length_reverse] at h
  exact h

theorem trim_last (l : List UInt8) : ((Lib.trimRightB l 0).getLast? == some 0) = false := by
  unfold Lib.trimRightB
  rw [List.getLast?_reverse]
  cases h : (l.reverse.dropWhile (· == 0)).head? with
  | none => rfl
  | some x =>
    have h2 := List.head?_dropWhile_not (· == 0) l.reverse
    rw [h] at h2
    simp only [beq_eq_false_iff_ne, ne_eq, Option.some.injEq]
    intro q
    subst q
    simp at h2

/-- Field by field, where it stands. -/
theorem insE_none (n p : Nat) : ∀ k, p + 16 * k ≤ n → insE n p k = none
  | 0, _ => rfl
  | k + 1, h => by
    show (if (insE n p k).isSome = true then insE n p k else inE n (p + 16 * k)) = none
    rw [insE_none n p k (by omega)]
    show inE n (p + 16 * k) = none
    unfold inE
    rw [if_neg (by omega), if_neg (by omega), if_neg (by omega), if_neg (by omega), if_neg (by omega), if_neg (by omega), if_neg (by omega)]

theorem okIns_all {x : Ins} (h : okIns x = true) : okF x.f = true ∧ okB x.root = true ∧ fitI 4 x.cost = true ∧ (0 ≤ x.br ∧ x.br ≤ 15) ∧ (0 ≤ x.pt ∧ x.pt ≤ 15) ∧ fitI 1 x.hop = true := by
  simp only [okIns, Bool.and_eq_true] at h
  obtain ⟨h0, h1, h2, h3, h4, h5⟩ := h
  exact ⟨h0, h1, h2, rkI_all h3, rkI_all h4, h5⟩

theorem br_at {s : ByteArray} {p : Nat} {b : Br} (hx : byB b) (hok : okB b = true) (h1 : (s.data.toList.drop p).take 2 = putL (b.p + b.e).toNat 2) (h2 : (s.data.toList.drop (p + 2)).take 6 = nb 6 b.a) : brC (brAt s p) = brC b := by
  obtain ⟨p0, p1, pm, e0, e1⟩ := okB_all hok
  exact br_back b hx hok (brAt s p) (beAt s p) ((s.data.toList.drop (p + 2)).take 6) rfl (by unfold beAt; rw [h1, beN_putL_fits _ _ (by omega)]; omega) h2

theorem in_back {s : ByteArray} {p : Nat} {x : Ins} {H C : List UInt8} (h : s.data.toList = H ++ (insL x ++ C)) (hH : H.length = p) (hx : byIns x) (hok : okIns x = true) : inC (inAt s p) = inC x := by
  obtain ⟨hf, hroot, hcost, ⟨b0, b1⟩, ⟨t0, t1⟩, hhop⟩ := okIns_all hok
  unfold insL at h
  rw [packL_two] at h
  have f0 : (s.data.toList.drop (p + 0)).take 1 = putL (byF x.f) 1 := seg (A := H) (X := putL (byF x.f) 1) (C := putL (x.root.p + x.root.e).toNat 2 ++ nb 6 x.root.a ++ putL x.cost.toNat 4 ++ putL (16 * x.br).toNat 1 ++ putL (16 * x.pt).toNat 1 ++ putL x.hop.toNat 1 ++ C) (by rw [h]; simp only [List.append_assoc]) (by simp only [List.length_append, putL_length, nb6_len, hH, Nat.add_zero]) (by first | exact putL_length _ _ | exact nb6_len _)
  have f1 : (s.data.toList.drop (p + 1)).take 2 = putL (x.root.p + x.root.e).toNat 2 := seg (A := H ++ putL (byF x.f) 1) (X := putL (x.root.p + x.root.e).toNat 2) (C := nb 6 x.root.a ++ putL x.cost.toNat 4 ++ putL (16 * x.br).toNat 1 ++ putL (16 * x.pt).toNat 1 ++ putL x.hop.toNat 1 ++ C) (by rw [h]; simp only [List.append_assoc]) (by simp only [List.length_append, putL_length, nb6_len, hH, Nat.add_zero]) (by first | exact putL_length _ _ | exact nb6_len _)
  have f2 : (s.data.toList.drop (p + 3)).take 6 = nb 6 x.root.a := seg (A := H ++ putL (byF x.f) 1 ++ putL (x.root.p + x.root.e).toNat 2) (X := nb 6 x.root.a) (C := putL x.cost.toNat 4 ++ putL (16 * x.br).toNat 1 ++ putL (16 * x.pt).toNat 1 ++ putL x.hop.toNat 1 ++ C) (by rw [h]; simp only [List.append_assoc]) (by simp only [List.length_append, putL_length, nb6_len, hH, Nat.add_zero]) (by first | exact putL_length _ _ | exact nb6_len _)
  have f3 : (s.data.toList.drop (p + 9)).take 4 = putL x.cost.toNat 4 := seg (A := H ++ putL (byF x.f) 1 ++ putL (x.root.p + x.root.e).toNat 2 ++ nb 6 x.root.a) (X := putL x.cost.toNat 4) (C := putL (16 * x.br).toNat 1 ++ putL (16 * x.pt).toNat 1 ++ putL x.hop.toNat 1 ++ C) (by rw [h]; simp only [List.append_assoc]) (by simp only [List.length_append, putL_length, nb6_len, hH, Nat.add_zero]) (by first | exact putL_length _ _ | exact nb6_len _)
  have f4 : (s.data.toList.drop (p + 13)).take 1 = putL (16 * x.br).toNat 1 := seg (A := H ++ putL (byF x.f) 1 ++ putL (x.root.p + x.root.e).toNat 2 ++ nb 6 x.root.a ++ putL x.cost.toNat 4) (X := putL (16 * x.br).toNat 1) (C := putL (16 * x.pt).toNat 1 ++ putL x.hop.toNat 1 ++ C) (by rw [h]; simp only [List.append_assoc]) (by simp only [List.length_append, putL_length, nb6_len, hH, Nat.add_zero]) (by first | exact putL_length _ _ | exact nb6_len _)
  have f5 : (s.data.toList.drop (p + 14)).take 1 = putL (16 * x.pt).toNat 1 := seg (A := H ++ putL (byF x.f) 1 ++ putL (x.root.p + x.root.e).toNat 2 ++ nb 6 x.root.a ++ putL x.cost.toNat 4 ++ putL (16 * x.br).toNat 1) (X := putL (16 * x.pt).toNat 1) (C := putL x.hop.toNat 1 ++ C) (by rw [h]; simp only [List.append_assoc]) (by simp only [List.length_append, putL_length, nb6_len, hH, Nat.add_zero]) (by first | exact putL_length _ _ | exact nb6_len _)
  have f6 : (s.data.toList.drop (p + 15)).take 1 = putL x.hop.toNat 1 := seg (A := H ++ putL (byF x.f) 1 ++ putL (x.root.p + x.root.e).toNat 2 ++ nb 6 x.root.a ++ putL x.cost.toNat 4 ++ putL (16 * x.br).toNat 1 ++ putL (16 * x.pt).toNat 1) (X := putL x.hop.toNat 1) (C := C) (by rw [h]; simp only [List.append_assoc]) (by simp only [List.length_append, putL_length, nb6_len, hH, Nat.add_zero]) (by first | exact putL_length _ _ | exact nb6_len _)
  have e4 : (numAt s (p + 13) 1 : Int) = 16 * x.br := by
    show ((beN ((s.data.toList.drop (p + 13)).take 1) : Nat) : Int) = _
    rw [f4, nat_i _ _ (by unfold fitI; rw [decide_eq_true (show 0 ≤ 16 * x.br by omega), decide_eq_true (show 16 * x.br < 256 ^ 1 by omega)]; rfl)]
  have e5 : (numAt s (p + 14) 1 : Int) = 16 * x.pt := by
    show ((beN ((s.data.toList.drop (p + 14)).take 1) : Nat) : Int) = _
    rw [f5, nat_i _ _ (by unfold fitI; rw [decide_eq_true (show 0 ≤ 16 * x.pt by omega), decide_eq_true (show 16 * x.pt < 256 ^ 1 by omega)]; rfl)]
  refine inC_congr _ _ ?_ (br_at hx hroot f1 f2) ?_ ?_ ?_ ?_
  · show ofF (beN ((s.data.toList.drop (p + 0)).take 1)) = x.f
    rw [f0, beN_putL_fits _ _ (by have := byF_lt x.f hf; simpa using this), ofF_by x.f hf]
  · show ((beN ((s.data.toList.drop (p + 9)).take 4) : Nat) : Int) = x.cost
    rw [f3, nat_i _ _ hcost]
  · show ((numAt s (p + 13) 1 / 16 : Nat) : Int) = x.br
    omega
  · show ((numAt s (p + 14) 1 / 16 : Nat) : Int) = x.pt
    omega
  · show ((beN ((s.data.toList.drop (p + 15)).take 1) : Nat) : Int) = x.hop
    rw [f6, nat_i _ _ hhop]

theorem inss_split (l : List Ins) (j : Nat) (h : j < l.length) : inssL l = inssL (l.take j) ++ (insL l[j] ++ inssL (l.drop (j + 1))) := by
  conv => lhs; rw [← List.take_append_drop j l, List.drop_eq_getElem_cons h]
  unfold inssL
  rw [List.flatMap_append, List.flatMap_cons]

/-- What is written is read. -/
theorem ms_back (m : Ms) (l : List Ins) (c : List UInt8) (s : ByteArray) (hok : okMs m l = true) (hx : byBp m.base ∧ byB m.br ∧ ∀ x ∈ l, byIns x) (hs : s.data.toList = writeM m l ++ c) :
    allE s = none ∧ (∀ v, msC (msAt s) v = msC m v) ∧ cntAt s = l.length ∧ ∀ j (h : j < l.length), inC (inAt s (102 + 16 * j)) = inC l[j] := by
  obtain ⟨hk, hrp, hname, htz, hrev, hdig, hcost, hbr, hhop, hlen, hall⟩ := okMs_all hok
  obtain ⟨hxb, hxr, hxl⟩ := hx
  have hrp' := hrp
  unfold okRp at hrp'
  rw [Bool.and_eq_true] at hrp'
  obtain ⟨hf, hbd⟩ := hrp'
  have hsz := len_of hs
  rw [List.length_append, writeM_len m l hname hdig] at hsz
  have hW := headM_len m l.length hname hdig
  have hdl : m.dig.data.toList.length = 16 := by rw [← hdig]; simp
  have hpl := padL_len m.name hname
  have hs1 : s.data.toList = headM m l.length ++ (inssL l ++ c) := by rw [hs]; unfold writeM; rw [List.append_assoc]
  have hs2 := hs1
  unfold headM at hs2
  rw [packL_two] at hs2
  have f0 : (s.data.toList.drop 0).take 4 = [0, 0, 3, 2] := seg (A := []) (X := [0, 0, 3, 2]) (C := bodyL m.base ++ [0] ++ putL (64 + 16 * l.length) 2 ++ [0] ++ padL m.name ++ putL m.rev.toNat 2 ++ m.dig.data.toList ++ putL m.cost.toNat 4 ++ putL (m.br.p + m.br.e).toNat 2 ++ nb 6 m.br.a ++ putL m.hop.toNat 1 ++ inssL l ++ c) (by rw [hs2]; simp only [List.append_assoc, List.nil_append]) (by simp only [List.length_append, putL_length, nb6_len, bodyL_len, hdl, hpl, List.length_cons, List.length_nil]) (by first | exact putL_length _ _ | exact nb6_len _ | exact bodyL_len _ | exact hdl | exact hpl | rfl)
  have f1 : (s.data.toList.drop 4).take 31 = bodyL m.base := seg (A := [0, 0, 3, 2]) (X := bodyL m.base) (C := [0] ++ putL (64 + 16 * l.length) 2 ++ [0] ++ padL m.name ++ putL m.rev.toNat 2 ++ m.dig.data.toList ++ putL m.cost.toNat 4 ++ putL (m.br.p + m.br.e).toNat 2 ++ nb 6 m.br.a ++ putL m.hop.toNat 1 ++ inssL l ++ c) (by rw [hs2]; simp only [List.append_assoc, List.nil_append]) (by simp only [List.length_append, putL_length, nb6_len, bodyL_len, hdl, hpl, List.length_cons, List.length_nil]) (by first | exact putL_length _ _ | exact nb6_len _ | exact bodyL_len _ | exact hdl | exact hpl | rfl)
  have f2 : (s.data.toList.drop 35).take 1 = [0] := seg (A := [0, 0, 3, 2] ++ bodyL m.base) (X := [0]) (C := putL (64 + 16 * l.length) 2 ++ [0] ++ padL m.name ++ putL m.rev.toNat 2 ++ m.dig.data.toList ++ putL m.cost.toNat 4 ++ putL (m.br.p + m.br.e).toNat 2 ++ nb 6 m.br.a ++ putL m.hop.toNat 1 ++ inssL l ++ c) (by rw [hs2]; simp only [List.append_assoc, List.nil_append]) (by simp only [List.length_append, putL_length, nb6_len, bodyL_len, hdl, hpl, List.length_cons, List.length_nil]) (by first | exact putL_length _ _ | exact nb6_len _ | exact bodyL_len _ | exact hdl | exact hpl | rfl)
  have f3 : (s.data.toList.drop 36).take 2 = putL (64 + 16 * l.length) 2 := seg (A := [0, 0, 3, 2] ++ bodyL m.base ++ [0]) (X := putL (64 + 16 * l.length) 2) (C := [0] ++ padL m.name ++ putL m.rev.toNat 2 ++ m.dig.data.toList ++ putL m.cost.toNat 4 ++ putL (m.br.p + m.br.e).toNat 2 ++ nb 6 m.br.a ++ putL m.hop.toNat 1 ++ inssL l ++ c) (by rw [hs2]; simp only [List.append_assoc, List.nil_append]) (by simp only [List.length_append, putL_length, nb6_len, bodyL_len, hdl, hpl, List.length_cons, List.length_nil]) (by first | exact putL_length _ _ | exact nb6_len _ | exact bodyL_len _ | exact hdl | exact hpl | rfl)
  have f4 : (s.data.toList.drop 38).take 1 = [0] := seg (A := [0, 0, 3, 2] ++ bodyL m.base ++ [0] ++ putL (64 + 16 * l.length) 2) (X := [0]) (C := padL m.name ++ putL m.rev.toNat 2 ++ m.dig.data.toList ++ putL m.cost.toNat 4 ++ putL (m.br.p + m.br.e).toNat 2 ++ nb 6 m.br.a ++ putL m.hop.toNat 1 ++ inssL l ++ c) (by rw [hs2]; simp only [List.append_assoc, List.nil_append]) (by simp only [List.length_append, putL_length, nb6_len, bodyL_len, hdl, hpl, List.length_cons, List.length_nil]) (by first | exact putL_length _ _ | exact nb6_len _ | exact bodyL_len _ | exact hdl | exact hpl | rfl)
  have f5 : (s.data.toList.drop 39).take 32 = padL m.name := seg (A := [0, 0, 3, 2] ++ bodyL m.base ++ [0] ++ putL (64 + 16 * l.length) 2 ++ [0]) (X := padL m.name) (C := putL m.rev.toNat 2 ++ m.dig.data.toList ++ putL m.cost.toNat 4 ++ putL (m.br.p + m.br.e).toNat 2 ++ nb 6 m.br.a ++ putL m.hop.toNat 1 ++ inssL l ++ c) (by rw [hs2]; simp only [List.append_assoc, List.nil_append]) (by simp only [List.length_append, putL_length, nb6_len, bodyL_len, hdl, hpl, List.length_cons, List.length_nil]) (by first | exact putL_length _ _ | exact nb6_len _ | exact bodyL_len _ | exact hdl | exact hpl | rfl)
  have f6 : (s.data.toList.drop 71).take 2 = putL m.rev.toNat 2 := seg (A := [0, 0, 3, 2] ++ bodyL m.base ++ [0] ++ putL (64 + 16 * l.length) 2 ++ [0] ++ padL m.name) (X := putL m.rev.toNat 2) (C := m.dig.data.toList ++ putL m.cost.toNat 4 ++ putL (m.br.p + m.br.e).toNat 2 ++ nb 6 m.br.a ++ putL m.hop.toNat 1 ++ inssL l ++ c) (by rw [hs2]; simp only [List.append_assoc, List.nil_append]) (by simp only [List.length_append, putL_length, nb6_len, bodyL_len, hdl, hpl, List.length_cons, List.length_nil]) (by first | exact putL_length _ _ | exact nb6_len _ | exact bodyL_len _ | exact hdl | exact hpl | rfl)
  have f7 : (s.data.toList.drop 73).take 16 = m.dig.data.toList := seg (A := [0, 0, 3, 2] ++ bodyL m.base ++ [0] ++ putL (64 + 16 * l.length) 2 ++ [0] ++ padL m.name ++ putL m.rev.toNat 2) (X := m.dig.data.toList) (C := putL m.cost.toNat 4 ++ putL (m.br.p + m.br.e).toNat 2 ++ nb 6 m.br.a ++ putL m.hop.toNat 1 ++ inssL l ++ c) (by rw [hs2]; simp only [List.append_assoc, List.nil_append]) (by simp only [List.length_append, putL_length, nb6_len, bodyL_len, hdl, hpl, List.length_cons, List.length_nil]) (by first | exact putL_length _ _ | exact nb6_len _ | exact bodyL_len _ | exact hdl | exact hpl | rfl)
  have f8 : (s.data.toList.drop 89).take 4 = putL m.cost.toNat 4 := seg (A := [0, 0, 3, 2] ++ bodyL m.base ++ [0] ++ putL (64 + 16 * l.length) 2 ++ [0] ++ padL m.name ++ putL m.rev.toNat 2 ++ m.dig.data.toList) (X := putL m.cost.toNat 4) (C := putL (m.br.p + m.br.e).toNat 2 ++ nb 6 m.br.a ++ putL m.hop.toNat 1 ++ inssL l ++ c) (by rw [hs2]; simp only [List.append_assoc, List.nil_append]) (by simp only [List.length_append, putL_length, nb6_len, bodyL_len, hdl, hpl, List.length_cons, List.length_nil]) (by first | exact putL_length _ _ | exact nb6_len _ | exact bodyL_len _ | exact hdl | exact hpl | rfl)
  have f9 : (s.data.toList.drop 93).take 2 = putL (m.br.p + m.br.e).toNat 2 := seg (A := [0, 0, 3, 2] ++ bodyL m.base ++ [0] ++ putL (64 + 16 * l.length) 2 ++ [0] ++ padL m.name ++ putL m.rev.toNat 2 ++ m.dig.data.toList ++ putL m.cost.toNat 4) (X := putL (m.br.p + m.br.e).toNat 2) (C := nb 6 m.br.a ++ putL m.hop.toNat 1 ++ inssL l ++ c) (by rw [hs2]; simp only [List.append_assoc, List.nil_append]) (by simp only [List.length_append, putL_length, nb6_len, bodyL_len, hdl, hpl, List.length_cons, List.length_nil]) (by first | exact putL_length _ _ | exact nb6_len _ | exact bodyL_len _ | exact hdl | exact hpl | rfl)
  have f10 : (s.data.toList.drop 95).take 6 = nb 6 m.br.a := seg (A := [0, 0, 3, 2] ++ bodyL m.base ++ [0] ++ putL (64 + 16 * l.length) 2 ++ [0] ++ padL m.name ++ putL m.rev.toNat 2 ++ m.dig.data.toList ++ putL m.cost.toNat 4 ++ putL (m.br.p + m.br.e).toNat 2) (X := nb 6 m.br.a) (C := putL m.hop.toNat 1 ++ inssL l ++ c) (by rw [hs2]; simp only [List.append_assoc, List.nil_append]) (by simp only [List.length_append, putL_length, nb6_len, bodyL_len, hdl, hpl, List.length_cons, List.length_nil]) (by first | exact putL_length _ _ | exact nb6_len _ | exact bodyL_len _ | exact hdl | exact hpl | rfl)
  have f11 : (s.data.toList.drop 101).take 1 = putL m.hop.toNat 1 := seg (A := [0, 0, 3, 2] ++ bodyL m.base ++ [0] ++ putL (64 + 16 * l.length) 2 ++ [0] ++ padL m.name ++ putL m.rev.toNat 2 ++ m.dig.data.toList ++ putL m.cost.toNat 4 ++ putL (m.br.p + m.br.e).toNat 2 ++ nb 6 m.br.a) (X := putL m.hop.toNat 1) (C := inssL l ++ c) (by rw [hs2]; simp only [List.append_assoc, List.nil_append]) (by simp only [List.length_append, putL_length, nb6_len, bodyL_len, hdl, hpl, List.length_cons, List.length_nil]) (by first | exact putL_length _ _ | exact nb6_len _ | exact bodyL_len _ | exact hdl | exact hpl | rfl)
  have hbody := inL_back (inL_of (b := m.base) (l := s.data.toList) (H := [0, 0, 3, 2]) (C := [0] ++ (putL (64 + 16 * l.length) 2 ++ ([0] ++ (padL m.name ++ (putL m.rev.toNat 2 ++ (m.dig.data.toList ++ (putL m.cost.toNat 4 ++ (putL (m.br.p + m.br.e).toNat 2 ++ nb 6 m.br.a ++ putL m.hop.toNat 1))))))) ++ (inssL l ++ c)) (by rw [hs2]; simp only [List.append_assoc]) rfl) hxb hf hbd 3 hk
  obtain ⟨hbc, hpz⟩ := hbody
  replace hpz : pzAt s 25 = false := hpz
  have hn : numAt s 36 2 = 64 + 16 * l.length := by
    unfold numAt
    rw [f3, beN_putL_fits _ _ (by omega)]
  have hcnt : cntAt s = l.length := by unfold cntAt; rw [hn]; omega
  have hE : mE s = none := by
    unfold mE
    rw [if_neg (by omega), if_neg (by rw [show hdAt s = [0, 0, 3, 2] from f0]; simp), hpz, bdE_none _ (by omega), if_neg (by simp), if_neg (by omega), if_neg (by rw [show bsAt s 35 1 = [0] from f2]; simp), if_neg (by omega),
      if_neg (by rw [hn]; unfold okLen; rw [decide_eq_true (show 64 ≤ 64 + 16 * l.length by omega), decide_eq_true (show 64 + 16 * l.length ≤ 1088 by omega), decide_eq_true (show (64 + 16 * l.length) % 16 = 0 by omega)]; simp),
      if_neg (by omega), if_neg (by rw [show bsAt s 38 1 = [0] from f4]; simp), if_neg (by omega), if_neg (by omega), if_neg (by omega), if_neg (by omega), if_neg (by omega), if_neg (by omega), if_neg (by omega)]
  refine ⟨?_, fun v => msC_congr _ _ v hbc ?_ ?_ ?_ ?_ (br_at hxr hbr f9 f10) ?_, hcnt, fun j hj => ?_⟩
  · unfold allE
    rw [hE, hcnt, insE_none _ _ _ (by omega)]
    rfl
  · show (⟨(Lib.trimRightB (bsAt s 39 32) 0).toArray⟩ : ByteArray) = m.name
    rw [show bsAt s 39 32 = padL m.name from f5]
    unfold padL
    rw [trim_pad _ _ htz]
  · show ((numAt s 71 2 : Nat) : Int) = m.rev
    unfold numAt
    rw [f6, nat_i _ _ hrev]
  · show (⟨(bsAt s 73 16).toArray⟩ : ByteArray) = m.dig
    rw [show bsAt s 73 16 = m.dig.data.toList from f7]
  · show ((numAt s 89 4 : Nat) : Int) = m.cost
    unfold numAt
    rw [f8, nat_i _ _ hcost]
  · show ((numAt s 101 1 : Nat) : Int) = m.hop
    unfold numAt
    rw [f11, nat_i _ _ hhop]
  · have hmem : l[j] ∈ l := List.getElem_mem hj
    refine in_back (H := headM m l.length ++ inssL (l.take j)) (C := inssL (l.drop (j + 1)) ++ c) ?_ ?_ (hxl _ hmem) (List.all_eq_true.1 hall _ hmem)
    · rw [hs1, inss_split l j hj]
      simp only [List.append_assoc]
    · rw [List.length_append, hW, inssL_len, List.length_take, Nat.min_eq_left (by omega)]

theorem rk_at (s : ByteArray) (p : Nat) : rkI ((numAt s p 1 / 16 : Nat) : Int) = true := by
  have h := numAt_one s p
  unfold rkI
  rw [decide_eq_true (Int.natCast_nonneg _), decide_eq_true (show ((numAt s p 1 / 16 : Nat) : Int) ≤ 15 by omega)]
  rfl

theorem okIns_at (s : ByteArray) (p : Nat) : okIns (inAt s p) = true := by
  unfold okIns
  show (okF (ofF (numAt s p 1)) && (okB (brAt s (p + 1)) && (fitI 4 ((numAt s (p + 9) 4 : Nat) : Int) && (rkI ((numAt s (p + 13) 1 / 16 : Nat) : Int) && (rkI ((numAt s (p + 14) 1 / 16 : Nat) : Int) && fitI 1 ((numAt s (p + 15) 1 : Nat) : Int)))))) = true
  rw [okF_of, okB_at, fit_at, rk_at, rk_at, fit_at]
  rfl

/-- What is read may be. -/
theorem ms_right (s : ByteArray) (h : allE s = none) (h1 : okLen (numAt s 36 2) = true) (h2 : 102 + 16 * cntAt s ≤ s.size) :
    okMs (msAt s) (insAt s 102 (cntAt s)) = true ∧ (byBp (msAt s).base ∧ byB (msAt s).br ∧ ∀ x ∈ insAt s 102 (cntAt s), byIns x) ∧ (writeM (msAt s) (insAt s 102 (cntAt s))).length ≤ s.size ∧ (msAt s).name.size ≤ 32 ∧ (msAt s).dig.size = 16 := by
  have hm : mE s = none := by
    unfold allE at h
    by_cases q : (mE s).isSome = true
    · rw [if_pos q] at h
      exact h
    · simpa using q
  have hbd : bdE s.size 4 (pzAt s 25) = none := by
    unfold mE at hm
    by_cases q0 : s.size < 4
    · rw [if_pos q0] at hm; cases hm
    rw [if_neg q0] at hm
    by_cases q1 : ¬ hdAt s = [0, 0, 3, 2]
    · rw [if_pos q1] at hm; cases hm
    rw [if_neg q1] at hm
    by_cases q2 : (bdE s.size 4 (pzAt s 25)).isSome = true
    · rw [if_pos q2] at hm; exact hm
    · simpa using q2
  obtain ⟨-, hpz⟩ := bdE_full hbd
  have hdig : (msAt s).dig.size = 16 := by
    show ((bsAt s 73 16).toArray).size = 16
    unfold bsAt
    rw [List.size_toArray, List.length_take, List.length_drop]
    have : s.data.toList.length = s.size := by simp
    omega
  have hname : (msAt s).name.size ≤ 32 := by
    show ((Lib.trimRightB (bsAt s 39 32) 0).toArray).size ≤ 32
    rw [List.size_toArray]
    have h3 := trim_len (bsAt s 39 32)
    have h4 : (bsAt s 39 32).length ≤ 32 := List.length_take_le 32 _
    omega
  have htz : tz (msAt s).name = false := trim_last (bsAt s 39 32)
  have hc : cntAt s ≤ 64 := by
    unfold okLen at h1
    simp only [Bool.and_eq_true, decide_eq_true_eq] at h1
    unfold cntAt
    omega
  refine ⟨?_, ⟨by_at s 4 3, fun i => byX_lt _ i, fun x hx => ?_⟩, ?_, hname, hdig⟩
  · unfold okMs okMs0 okRp
    rw [insAt_len, decide_eq_true hc, decide_eq_true hname, htz, decide_eq_true hdig]
    show (((3 : Int) == 3) && ((okF (ofF (numAt s 4 1)) && okBd (bpAt s 4 3)) && (true && (!false && ((fitI 2 ((numAt s 71 2 : Nat) : Int) && (true && (fitI 4 ((numAt s 89 4 : Nat) : Int) && (okB (brAt s 93) && fitI 1 ((numAt s 101 1 : Nat) : Int))))) && (true && (insAt s 102 (cntAt s)).all okIns)))))) = true
    rw [okF_of, okBd_at s 4 3 hpz, fit_at, fit_at, fit_at, okB_at]
    have ha : (insAt s 102 (cntAt s)).all okIns = true := by
      rw [List.all_eq_true]
      intro x hx
      unfold insAt at hx
      obtain ⟨j, _, rfl⟩ := List.mem_map.1 hx
      exact okIns_at s _
    rw [ha]
    rfl
  · unfold insAt at hx
    obtain ⟨j, _, rfl⟩ := List.mem_map.1 hx
    exact fun i => byX_lt _ i
  · rw [writeM_len _ _ hname hdig, insAt_len]
    exact h2

end Go.Proofs.YtdjljnpbnhampaaDoor

namespace Go.Proofs.YtdjljnpbnhampaaDoor
open Go.RowKit
set_option linter.unusedSimpArgs false
set_option linter.unusedVariables false
set_option maxRecDepth 100000

/-- The cells of instances, one behind the other. -/
def inR (l : List Ins) : List Value := l.flatMap fun v => (inC v).toList

theorem inR_cons (v : Ins) (l : List Ins) : inR (v :: l) = (inC v).toList ++ inR l := by simp [inR]

theorem inR_append (l m : List Ins) : inR (l ++ m) = inR l ++ inR m := by simp [inR]

theorem inR_one (v : Ins) : inR [v] = (inC v).toList := by simp [inR]

theorem inC_len (v : Ins) : (inC v).toList.length = 19 := rfl

theorem inR_len (l : List Ins) : (inR l).length = l.length * 19 := by
  induction l with
  | nil => rfl
  | cons v l ih => rw [inR_cons, List.length_append, ih, inC_len, List.length_cons]; omega

theorem inR_get : ∀ (l : List Ins) (j : Nat) (hj : j < l.length) (k : Nat), k < 19 → (inR l)[j * 19 + k]? = (inC l[j])[k]?
  | [], j, hj, _, _ => by simp at hj
  | v :: l, 0, _, k, hk => by
    rw [inR_cons, List.getElem?_append_left (by rw [inC_len]; omega)]
    simp
  | v :: l, j + 1, hj, k, hk => by
    have ih := inR_get l j (by simpa using hj) k hk
    rw [inR_cons, List.getElem?_append_right (by rw [inC_len]; omega), inC_len, show (j + 1) * 19 + k - 19 = j * 19 + k by omega, ih]
    rfl

theorem inC_cells (v : Ins) : ∀ u ∈ (inC v).toList, u.oneCell' = true := by
  intro u hu
  simp only [inC, List.mem_cons, List.not_mem_nil, or_false] at hu
  rcases hu with rfl | rfl | rfl | rfl | rfl | rfl | rfl | rfl | rfl | rfl | rfl | rfl | rfl | rfl | rfl | rfl | rfl | rfl | rfl <;> rfl

theorem inR_cells (l : List Ins) : ∀ u ∈ inR l, u.oneCell' = true := by
  intro u hu
  unfold inR at hu
  obtain ⟨v, _, hv⟩ := List.mem_flatMap.1 hu
  exact inC_cells v u hv

theorem inAt_news {w : World} {b o : Nat} {l : List Ins} (h : InAt w b o l) : ∀ (q : Nat) u, (inR l)[q]? = some u → w.cell? ((⟨b, o, none⟩ : Addr).add q) = some u := by
  intro q u hu
  have hq : q < l.length * 19 := by
    rw [← inR_len]
    exact (List.getElem?_eq_some_iff.1 hu).1
  have hj : q / 19 < l.length := by omega
  have e : q = q / 19 * 19 + q % 19 := by omega
  rw [e, inR_get l (q / 19) hj (q % 19) (by omega)] at hu
  have := h (q / 19) hj (q % 19) u hu
  rw [e, Addr.add_lit, ← Nat.add_assoc]
  exact this

theorem in_own {w : World} {base g cap n : Nat} {T : TypeId} {l : List Ins} (hn : n = l.length) (h : w.ownsRow base T 19 (.slice (some ⟨g, 0, none⟩) n cap) n (inR l)) : InAt w g 0 l := by
  subst hn
  intro j hj k c hc
  have hk : k < 19 := (Array.getElem?_eq_some_iff.1 hc).1
  have h2 := h.cellAt (j * 19 + k) (by omega)
  rw [inR_get l j hj k hk, hc] at h2
  rw [Nat.zero_add]
  exact h2

/-- A row of instances of one's own: none, or a block from base on. -/
def OwnI (w : World) (base : Nat) (v : Value) (l : List Ins) : Prop := (l = [] ∧ v = .slice none 0 0) ∨ (l ≠ [] ∧ ∃ g cap, v = .slice (some ⟨g, 0, none⟩) l.length cap ∧ w.ownsRow base 111 19 v l.length (inR l))

theorem OwnI.kept {w w' : World} {base : Nat} {v : Value} {l : List Ins} (h : OwnI w base v l) (hb : Below w.heap.size w w') : OwnI w' base v l := by
  rcases h with h | ⟨h1, g, cap, rfl, h2⟩
  · exact Or.inl h
  · exact Or.inr ⟨h1, g, cap, rfl, h2.kept (show w.grownBy w' none from ⟨hb.os, hb.tape, hb.output, hb.size, fun k hk _ => hb.block k hk⟩) (Or.inr (by simp [Value.ownBlock]))⟩

theorem OwnI.alloc {w : World} {base : Nat} {v : Value} {l : List Ins} (h : OwnI w base v l) (o : Obj) : OwnI (w.alloc o) base v l := h.kept ((Below.refl _ _).alloc (Nat.le_refl _) o)

theorem OwnI.inL {w : World} {base : Nat} {v : Value} {l : List Ins} (h : OwnI w base v l) : ∃ a c, v = .slice a l.length c ∧ InIn w a l := by
  rcases h with ⟨rfl, rfl⟩ | ⟨h1, g, cap, rfl, h2⟩
  · exact ⟨none, 0, rfl, Or.inl rfl⟩
  · exact ⟨some ⟨g, 0, none⟩, cap, rfl, Or.inr ⟨g, 0, rfl, (h2.lt g rfl).2, in_own rfl h2⟩⟩

theorem inR_snoc (l : List Ins) (x : Ins) : inR (l ++ [x]) = inR l ++ (inC x).toList := by rw [inR_append, inR_one]

/-- Another block is written. -/
theorem OwnI.grown {w w' : World} {base : Nat} {v : Value} {l : List Ins} {row : Option Nat} (h : OwnI w base v l) (hg : w.grownBy w' row) (hr : ∀ g, row = some g → g < base) : OwnI w' base v l := by
  rcases h with h | ⟨h1, g, cap, rfl, h2⟩
  · exact Or.inl h
  · refine Or.inr ⟨h1, g, cap, rfl, h2.kept hg ?_⟩
    right
    intro e
    have h3 := (h2.lt g rfl).1
    have := hr g (by rw [← e]; simp [Value.ownBlock])
    omega

theorem Tryd.inParts : (Tryd.prog.info? 111).map (fun i => (i.zero, i.size, i.bytes)) = some (some (.agg (inC zIns)), 19, 80) := by kernel_rfl

theorem fill_in (v : Ins) : Instr.fill (fun i => some (i * 19, 19)) ((Array.range (1 * 19)).map ((Value.agg (inC zIns)).cells[· % (Value.agg (inC zIns)).cells.size]!)) [(0, .agg (inC v))] = some (inC v) := by kernel_rfl

end Go.Proofs.YtdjljnpbnhampaaDoor

namespace Go.Proofs.YtdjljnpbnhampaaDoor
open Go.RowKit
set_option linter.unusedSimpArgs false
set_option linter.unusedVariables false
set_option maxRecDepth 100000

theorem own_append {o : Oper} {a : Act} {w : World} {K : Act → World → Prop} {Q : Exit → Act → World → Prop} {s x : Operand} {base G : Nat} {v : Value} {l : List Ins} (y : Ins)
    (ho : o.op = .call { callee := .builtin .append, args := #[s, x], argTypes := #[32, 32] }) (hs : a.eval s = v) (hx : a.eval x = .slice (some ⟨G, 0, none⟩) 1 1)
    (hO : OwnI w base v l) (hG : Blk w G 111 (inC y)) (hlen : l.length ≤ 10000) (hbase : base ≤ w.heap.size)
    (h : ∀ v' w', OwnI w' base v' (l ++ [y]) → Below base w w' → (∀ gr s off st, RdT w gr s off st → RdT w' gr s off st) → K (a.put o.dst v') w') : Oper.wp Tryd.prog o a w K Q := by
  obtain ⟨i0, hi, hz0, hz1, hz2⟩ := info_parts Tryd.inParts
  have hnews : ∀ (j : Nat) u, (inC y).toList[j]? = some u → w.cell? ((⟨G, 0, none⟩ : Addr).add j) = some u := fun j u hu => by
    rw [Addr.add_lit, Nat.zero_add]
    exact hG.cv j u (by simpa using hu)
  rcases hO with ⟨rfl, rfl⟩ | ⟨hne, g, cap, rfl, hown⟩
  · refine wp_append_lies w s x _ ho base 111 i0 (.agg (inC zIns)) 19 80 Tryd.underlying32 hi hz0 hz1 hz2 rfl (by decide) (.slice none 0 0) 0 [] hs (World.ownsRow_nil w base _ 19) ⟨G, 0, none⟩ 1 1 (inC y).toList hx rfl hnews (inC_cells y) (by decide) (by unfold maxLen; omega) (by decide) hbase _ rfl ?_
    intro g cap w' hown hgrow hat hlt
    refine h _ _ (Or.inr ⟨by simp, g, cap, rfl, ?_⟩) ((Below.refl base w).grown hgrow hbase (fun q hq => by simp [Value.ownBlock] at hq)) (fun gr s off st hR => ?_)
    · rw [List.nil_append, inR_one]
      exact hown
    · exact hR.below ⟨hgrow.os, hgrow.tape, hgrow.output, hgrow.size, fun k hk => hgrow.block k hk (by simp [Value.ownBlock])⟩
  · have hown' := hown
    refine wp_append_lies w s x _ ho base 111 i0 (.agg (inC zIns)) 19 80 Tryd.underlying32 hi hz0 hz1 hz2 rfl (by decide) (.slice (some ⟨g, 0, none⟩) l.length cap) l.length (inR l) hs hown ⟨G, 0, none⟩ 1 1 (inC y).toList hx rfl hnews (inC_cells y) (by decide) (by unfold maxLen; omega) (by omega) hbase _ rfl ?_
    intro g' cap' w' hown2 hgrow hat hlt
    obtain ⟨cur, hB, hge⟩ : ∃ cur, Blk w g 111 cur ∧ base ≤ g := by
      rcases hown'.2 with ⟨h1, -⟩ | ⟨g1, cap1, cur1, e1, e2, e3, -⟩
      · cases h1
      · cases e1
        exact ⟨cur1, e3, e2⟩
    have hob : Value.ownBlock (.slice (some ⟨g, 0, none⟩) l.length cap) = some g := rfl
    rw [hob] at hgrow
    refine h _ _ (Or.inr ⟨by simp, g', cap', by rw [List.length_append]; rfl, ?_⟩) ((Below.refl base w).grown hgrow hbase (fun q hq => by cases hq; exact hge)) (fun gr s off st hR => hR.other hB (by decide) (by decide) hgrow)
    rw [inR_snoc, List.length_append]
    exact hown2

end Go.Proofs.YtdjljnpbnhampaaDoor

namespace Go.Proofs.YtdjljnpbnhampaaDoor
open Go
set_option linter.unusedVariables false
set_option linter.unusedSimpArgs false

section
variable {P : Program} {ops : Array Oper} {Q : Exit → Act → World → Prop} {md : Region.Mode} {S : World → Prop} {D : Nat → Bool}

def wpAnyS (P : Program) (md : Region.Mode) (ops : Array Oper) (Q : Exit → Act → World → Prop) (S : World → Prop) (D : Nat → Bool) : Nat → Array Bool → Act → World → Prop
  | 0, listed, a, w => Region.ready md ops listed = [] ∧ Q .normal a w
  | fuel + 1, listed, a, w =>
    (Region.ready md ops listed = [] → Q .normal a w) ∧
    ∀ i ∈ Region.ready md ops listed, wpOp P ops Q i (fun a' w' => (D i = true → wpAny P md ops Q fuel (listed.setIfInBounds i true) a' w') ∧ (D i = false → S w' ∧ wpAnyS P md ops Q S D fuel (listed.setIfInBounds i true) a' w')) a w

theorem wpAny_of_S : ∀ (fuel : Nat) (listed : Array Bool) (a : Act) (w : World), wpAnyS P md ops Q S D fuel listed a w → wpAny P md ops Q fuel listed a w
  | 0, _, _, _, h => h
  | fuel + 1, _, _, _, h => ⟨h.1, fun i hi => wpOp_mono (fun a' w' h' => by
      cases hD : D i with
      | true => exact h'.1 hD
      | false => exact wpAny_of_S fuel _ a' w' (h'.2 hD).2) (h.2 i hi)⟩

theorem wpAnyS_first {i : Nat} {oi : Oper} {v : Value} (hi : ops[i]? = some oi) (hsel : ∀ (j : Nat) (o : Oper) cs b, ops[j]? = some o → o.op ≠ .select cs b)
    (hQ : ∀ c a w, Q (.panic c) (a.put oi.dst v) w → Q (.panic c) a w) (hDi : D i = false)
    (hD : ∀ j oj, ops[j]? = some oj → D j = true → ∃ e ∈ oj.after, Region.binds md e = true ∧ e.on = i) :
    ∀ (fuel : Nat) (listed : Array Bool) (a : Act) (w : World),
      (∀ j oj, ops[j]? = some oj → j ≠ i → listed.getD j true = false → (∀ e ∈ oj.after, Region.binds md e = true → e.on ≠ i) → oi.apart ops oj = true) →
      i ∈ Region.ready md ops listed → YieldsIf P ops S oi v a → S w →
      wpAnyS P md ops Q S D fuel (listed.setIfInBounds i true) (a.put oi.dst v) w → wpAnyS P md ops Q S D (fuel + 1) listed a w := by
  intro fuel
  induction fuel with
  | zero =>
    intro listed a w _ hr hy hS H
    refine ⟨fun h => (by rw [h] at hr; cases hr), fun j hj => ?_⟩
    by_cases hji : j = i
    · subst hji
      exact hy.wpOp hi hS ⟨fun h => (by rw [hDi] at h; cases h), fun _ => ⟨hS, H⟩⟩
    · have := ready_mono hj hji
      rw [H.1] at this
      cases this
  | succ fuel ih =>
    intro listed a w hfree hr hy hS H
    refine ⟨fun h => (by rw [h] at hr; cases hr), fun j hj => ?_⟩
    by_cases hji : j = i
    · subst hji
      exact hy.wpOp hi hS ⟨fun h => (by rw [hDi] at h; cases h), fun _ => ⟨hS, H⟩⟩
    · have h1 := H.2 j (ready_mono hj hji)
      obtain ⟨hjun, oj, hoj, hall⟩ := mem_ready.1 hj
      have hnot : ∀ e ∈ oj.after, Region.binds md e = true → e.on ≠ i := fun e he hb heq => by
        have h1 := hall e he hb
        have h0 := (mem_ready.1 hr).1
        rw [heq] at h1
        rcases Nat.lt_or_ge i listed.size with h' | h'
        · simp [h'] at h0 h1; rw [h0] at h1; cases h1
        · simp [Array.getElem?_eq_none h'] at h1
      have hDj : D j = false := by
        cases hq : D j with
        | false => rfl
        | true =>
          obtain ⟨e, he, hb, heq⟩ := hD j oj hoj hq
          exact absurd heq (hnot e he hb)
      have h1' : wpOp P ops Q j (fun a' w' => S w' ∧ wpAnyS P md ops Q S D fuel ((listed.setIfInBounds i true).setIfInBounds j true) a' w') (a.put oi.dst v) w := wpOp_mono (fun a' w' h => h.2 hDj) h1
      have h2 := wpOp_putIf hoj (hfree j oj hoj hji hjun hnot) (fun cs b => hsel i oi cs b hi) (fun cs b => hsel j oj cs b hoj) hQ hy h1'
      have hfree' : ∀ k ok, ops[k]? = some ok → k ≠ i → (listed.setIfInBounds j true).getD k true = false →
          (∀ e ∈ ok.after, Region.binds md e = true → e.on ≠ i) → oi.apart ops ok = true := fun k ok hk hki hun hno => by
        refine hfree k ok hk hki ?_ hno
        by_cases hjk : j = k
        · subst hjk; exact hjun
        · rw [getD_set_ne true hjk] at hun; exact hun
      refine wpOp_mono (fun a' w' h3 => ⟨fun h => (by rw [hDj] at h; cases h), fun _ => ⟨h3.2.1, ih (listed.setIfInBounds j true) a' w' hfree' (ready_mono hr (Ne.symm hji)) h3.1 h3.2.1 ?_⟩⟩) h2
      rw [Array.setIfInBounds_comm _ _ hji]
      exact h3.2.2

theorem wpAnyS_first0 {i : Nat} {oi : Oper} {v : Value} (hi : ops[i]? = some oi) (hsel : ∀ (j : Nat) (o : Oper) cs b, ops[j]? = some o → o.op ≠ .select cs b)
    (hQ : ∀ c a w, Q (.panic c) (a.put oi.dst v) w → Q (.panic c) a w) (hDi : D i = false) :
    ∀ (fuel : Nat) (listed : Array Bool) (a : Act) (w : World),
      (∀ j oj, ops[j]? = some oj → j ≠ i → listed.getD j true = false → (∀ e ∈ oj.after, Region.binds md e = true → e.on ≠ i) → oi.apart ops oj = true) →
      i ∈ Region.ready md ops listed → Yields P ops oi v a → S w →
      wpAnyS P md ops Q S D fuel (listed.setIfInBounds i true) (a.put oi.dst v) w → wpAnyS P md ops Q S D (fuel + 1) listed a w := by
  intro fuel
  induction fuel with
  | zero =>
    intro listed a w _ hr hy hS H
    refine ⟨fun h => (by rw [h] at hr; cases hr), fun j hj => ?_⟩
    by_cases hji : j = i
    · subst hji
      exact (hy.yieldsIf (S := S)).wpOp hi hS ⟨fun h => (by rw [hDi] at h; cases h), fun _ => ⟨hS, H⟩⟩
    · have := ready_mono hj hji
      rw [H.1] at this
      cases this
  | succ fuel ih =>
    intro listed a w hfree hr hy hS H
    refine ⟨fun h => (by rw [h] at hr; cases hr), fun j hj => ?_⟩
    by_cases hji : j = i
    · subst hji
      exact (hy.yieldsIf (S := S)).wpOp hi hS ⟨fun h => (by rw [hDi] at h; cases h), fun _ => ⟨hS, H⟩⟩
    · have h1 := H.2 j (ready_mono hj hji)
      obtain ⟨hjun, oj, hoj, hall⟩ := mem_ready.1 hj
      have hnot : ∀ e ∈ oj.after, Region.binds md e = true → e.on ≠ i := fun e he hb heq => by
        have h1 := hall e he hb
        have h0 := (mem_ready.1 hr).1
        rw [heq] at h1
        rcases Nat.lt_or_ge i listed.size with h' | h'
        · simp [h'] at h0 h1; rw [h0] at h1; cases h1
        · simp [Array.getElem?_eq_none h'] at h1
      have h2 := wpOp_put hoj (hfree j oj hoj hji hjun hnot) (fun cs b => hsel i oi cs b hi) (fun cs b => hsel j oj cs b hoj) hQ hy h1
      have hfree' : ∀ k ok, ops[k]? = some ok → k ≠ i → (listed.setIfInBounds j true).getD k true = false →
          (∀ e ∈ ok.after, Region.binds md e = true → e.on ≠ i) → oi.apart ops ok = true := fun k ok hk hki hun hno => by
        refine hfree k ok hk hki ?_ hno
        by_cases hjk : j = k
        · subst hjk; exact hjun
        · rw [getD_set_ne true hjk] at hun; exact hun
      refine wpOp_mono (fun a' w' h3 => ⟨fun hDj => ?_, fun hDj => ?_⟩) h2
      · refine wpAny_first hi hsel hQ fuel (listed.setIfInBounds j true) a' w' hfree' (ready_mono hr (Ne.symm hji)) h3.1 ?_
        rw [Array.setIfInBounds_comm _ _ hji]
        exact h3.2.1 hDj
      · refine ⟨(h3.2.2 hDj).1, ih (listed.setIfInBounds j true) a' w' hfree' (ready_mono hr (Ne.symm hji)) h3.1 (h3.2.2 hDj).1 ?_⟩
        rw [Array.setIfInBounds_comm _ _ hji]
        exact (h3.2.2 hDj).2

/-- Every operation of D waits for number i. -/
def waitsD (md : Region.Mode) (ops : Array Oper) (D : Nat → Bool) (i : Nat) : Bool :=
  (List.range ops.size).all fun j => !(D j) || (match ops[j]? with | some oj => oj.after.toList.any (fun e => Region.binds md e && (e.on == i)) | none => true)

theorem waitsD_spec {i : Nat} (h : waitsD md ops D i = true) : ∀ j oj, ops[j]? = some oj → D j = true → ∃ e ∈ oj.after, Region.binds md e = true ∧ e.on = i := fun j oj hoj hD => by
  have hj : j < ops.size := (Array.getElem?_eq_some_iff.1 hoj).1
  have h1 := List.all_eq_true.1 h j (List.mem_range.2 hj)
  rw [hD, hoj] at h1
  simp only [Bool.not_true, Bool.false_or, List.any_eq_true, Bool.and_eq_true, beq_iff_eq] at h1
  obtain ⟨e, he, hb, heq⟩ := h1
  exact ⟨e, by simpa using he, hb, heq⟩

theorem wpAnyS_take {i : Nat} {oi : Oper} {v : Value} {fuel : Nat} {listed : Array Bool} {a : Act} {w : World} (hi : ops[i]? = some oi)
    (hs : Region.noSelect ops = true) (hf : Region.free md ops listed i = true) (hr : (Region.ready md ops listed).contains i = true) (hDi : D i = false) (hD : waitsD md ops D i = true)
    (hQ : ∀ c a w, Q (.panic c) (a.put oi.dst v) w → Q (.panic c) a w) (hy : YieldsIf P ops S oi v a) (hS : S w)
    (h : wpAnyS P md ops Q S D fuel (listed.setIfInBounds i true) (a.put oi.dst v) w) : wpAnyS P md ops Q S D (fuel + 1) listed a w :=
  wpAnyS_first hi (Region.noSelect_spec hs) hQ hDi (waitsD_spec hD) fuel listed a w (Region.free_spec hi hf) (by simpa using hr) hy hS h

theorem wpAnyS_take0 {i : Nat} {oi : Oper} {v : Value} {fuel : Nat} {listed : Array Bool} {a : Act} {w : World} (hi : ops[i]? = some oi)
    (hs : Region.noSelect ops = true) (hf : Region.free md ops listed i = true) (hr : (Region.ready md ops listed).contains i = true) (hDi : D i = false)
    (hQ : ∀ c a w, Q (.panic c) (a.put oi.dst v) w → Q (.panic c) a w) (hw : Region.wanted oi (yielded ops a.tmps) = true) (hy : ∀ w, (execOp a.eval oi).run P w = .ok (.value v) w) (hS : S w)
    (h : wpAnyS P md ops Q S D fuel (listed.setIfInBounds i true) (a.put oi.dst v) w) : wpAnyS P md ops Q S D (fuel + 1) listed a w :=
  wpAnyS_first0 hi (Region.noSelect_spec hs) hQ hDi fuel listed a w (Region.free_spec hi hf) (by simpa using hr) (Or.inl ⟨hw, hy⟩) hS h

/-- The only one that may come up. -/
theorem wpAnyS_one {r : Nat} {o : Oper} {fuel : Nat} {listed : Array Bool} {a : Act} {w : World} (hr : Region.ready md ops listed = [r]) (ho : ops[r]? = some o) (hw : Region.wanted o (yielded ops a.tmps) = true) (hD : D r = false)
    (h : ∀ K : Act → World → Prop, (∀ a' w', S w' → (S w' → wpAnyS P md ops Q S D fuel (listed.setIfInBounds r true) a' w') → K a' w') → o.wp P a w K Q) : wpAnyS P md ops Q S D (fuel + 1) listed a w := by
  refine ⟨fun h0 => (by rw [hr] at h0; cases h0), fun i hi => ?_⟩
  rw [hr] at hi
  obtain rfl := List.mem_singleton.1 hi
  unfold wpOp
  simp only [ho, hw, if_true]
  exact Or.inl (h _ fun a' w' h1 h2 => ⟨fun q => (by rw [hD] at q; cases q), fun _ => ⟨h1, h2 h1⟩⟩)

theorem wpAnyS_last {r : Nat} {o : Oper} {fuel : Nat} {listed : Array Bool} {a : Act} {w : World} (hr : Region.ready md ops listed = [r]) (ho : ops[r]? = some o) (hw : Region.wanted o (yielded ops a.tmps) = true) (hD : D r = true)
    (h : ∀ K : Act → World → Prop, (∀ a' w', wpAny P md ops Q fuel (listed.setIfInBounds r true) a' w' → K a' w') → o.wp P a w K Q) : wpAnyS P md ops Q S D (fuel + 1) listed a w := by
  refine ⟨fun h0 => (by rw [hr] at h0; cases h0), fun i hi => ?_⟩
  rw [hr] at hi
  obtain rfl := List.mem_singleton.1 hi
  unfold wpOp
  simp only [ho, hw, if_true]
  exact Or.inl (h _ fun a' w' h1 => ⟨fun _ => h1, fun q => (by rw [hD] at q; cases q)⟩)

theorem wpAny_one {r : Nat} {o : Oper} {fuel : Nat} {listed : Array Bool} {a : Act} {w : World} (hr : Region.ready md ops listed = [r]) (ho : ops[r]? = some o) (hw : Region.wanted o (yielded ops a.tmps) = true)
    (h : ∀ K : Act → World → Prop, (∀ a' w', wpAny P md ops Q fuel (listed.setIfInBounds r true) a' w' → K a' w') → o.wp P a w K Q) : wpAny P md ops Q (fuel + 1) listed a w := by
  refine ⟨fun h0 => (by rw [hr] at h0; cases h0), fun i hi => ?_⟩
  rw [hr] at hi
  obtain rfl := List.mem_singleton.1 hi
  unfold wpOp
  simp only [ho, hw, if_true]
  exact Or.inl (h _ fun a' w' h1 => h1)

theorem wp_region_S {id : Nat} {a : Act} {w : World} (S : World → Prop) (D : Nat → Bool) (hm : P.follows .mixedOrders = true) (h0 : S w.drew)
    (h : S w.drew → wpAnyS P .any ops Q S D ops.size (Array.replicate ops.size false) a w.drew) : (Code.region id ops true).wp P Q a w :=
  wp_region_any hm (wpAny_of_S _ _ _ _ (h h0))
end

end Go.Proofs.YtdjljnpbnhampaaDoor

namespace Go.Proofs.YtdjljnpbnhampaaDoor
open Go.RowKit
attribute [local go_sem ↓] Go.wp_at_zero Go.wp_at_succ
set_option linter.unusedSimpArgs false
set_option linter.unusedVariables false
set_option maxRecDepth 100000

theorem sb9_leO (l : List UInt8) (st : RSt) (h : st.1 ≤ l.length) : (sb9 l 0 st).1 ≤ l.length :=
  nmS_le _ _ _ _ (nmS_le _ _ _ _ (nmS_le _ _ _ _ (nmS_le _ _ _ _ (rpSt_le _ _ _ (rdBs_le _ _ _ (nmS_le _ _ _ _ (rdBs_le _ _ _ (nmS_le _ _ _ _ h))))))))

theorem OwnI.mono {w : World} {base B : Nat} {v : Value} {l : List Ins} (h : OwnI w base v l) (hB : B ≤ base) : OwnI w B v l := by
  rcases h with h | ⟨h1, g, cap, rfl, h2, h3⟩
  · exact Or.inl h
  · refine Or.inr ⟨h1, g, cap, rfl, h2, ?_⟩
    rcases h3 with h3 | ⟨g', cap', cur, e1, e2, e3⟩
    · exact Or.inl h3
    · exact Or.inr ⟨g', cap', cur, e1, Nat.le_trans hB e2, e3⟩

set_option maxHeartbeats 12800000 in
theorem msRead_ok (s : ByteArray) (w : World) (hs : s.size ≤ 100000) (hF0 : (mhF s.data.toList).2.1 = 0) (M' : Ms) (I' : List Ins) (hM' : rdMs s.data.toList = M') (hI' : itV s.data.toList (mh11 s.data.toList) (rcN s.data.toList (mh3 s.data.toList)) = I') :
    Calls Tryd.prog 8 #[.string s] w fun r w' => (∃ v, r = .returned (.tuple #[.agg (msC M' v), .nilIface]) ∧ OwnI w' w.heap.size v I') ∧ Below w.heap.size w w' := by
  have hb : 0 + s.size ≤ 281474976710656 := by omega
  have hls : s.data.toList.length = s.size := by simp
  obtain ⟨i0, hi, hz0, hz1, hz2⟩ := info_parts Tryd.inParts
  have Q1 : (mh1 s.data.toList).1 ≤ s.data.toList.length := exS_le _ _ _ (Nat.zero_le _)
  have Q2 : (mh2 s.data.toList).1 ≤ s.data.toList.length := sb9_leO _ _ Q1
  have Q3 : (mh3 s.data.toList).1 ≤ s.data.toList.length := exS_le _ _ _ Q2
  have Q4 : (mh4 s.data.toList).1 ≤ s.data.toList.length := rcS_le _ _ Q3
  have Q5 : (mh5 s.data.toList).1 ≤ s.data.toList.length := exS_le _ _ _ Q4
  have Q6 : (mh6 s.data.toList).1 ≤ s.data.toList.length := tkN_le _ _ _ _ _ Q5
  have Q7 : (mh7 s.data.toList).1 ≤ s.data.toList.length := nmS_le _ _ _ _ Q6
  have Q8 : (mh8 s.data.toList).1 ≤ s.data.toList.length := tkN_le _ _ _ _ _ Q7
  have Q9 : (mh9 s.data.toList).1 ≤ s.data.toList.length := nmS_le _ _ _ _ Q8
  have Q10 : (mh10 s.data.toList).1 ≤ s.data.toList.length := rdBs_le _ _ _ Q9
  have Q11 : (mh11 s.data.toList).1 ≤ s.data.toList.length := nmS_le _ _ _ _ Q10
  have HSP : ∀ k, (itS s.data.toList (mh11 s.data.toList) k).1 ≤ s.size := fun k => by have q := itS_le s.data.toList _ Q11 k; rw [hls] at q; exact q
  have P1 := Q1
  rw [hls] at P1
  have P2 := Q2
  rw [hls] at P2
  have P3 := Q3
  rw [hls] at P3
  have P4 := Q4
  rw [hls] at P4
  have P5 := Q5
  rw [hls] at P5
  have P6 := Q6
  rw [hls] at P6
  have P7 := Q7
  rw [hls] at P7
  have P8 := Q8
  rw [hls] at P8
  have P9 := Q9
  rw [hls] at P9
  have P10 := Q10
  rw [hls] at P10
  have HX1 : Hid (∀ {g : Nat} {W : World}, RdT W g s 0 (0, 0, -1) → Calls Tryd.prog 39 #[.pointer (some ⟨g, 0, none⟩), .string ⟨#[0, 0, 3, 2]⟩, .slice none 0 0] W fun e w' => e = .returned (.string ⟨(exV s.data.toList (0, 0, -1) [0, 0, 3, 2]).toArray⟩) ∧ RdT w' g s 0 (mh1 s.data.toList) ∧ W.grownBy w' (some g)) := fun {g W} h => exp_t ⟨#[0, 0, 3, 2]⟩ (by decide) _ W h (Nat.zero_le _) hb
  have HX2 : Hid (∀ {g : Nat} {W : World}, RdT W g s 0 (mh1 s.data.toList) → Calls Tryd.prog 40 #[.pointer (some ⟨g, 0, none⟩), .int .i64 3] W fun e w' => e = .returned (.agg (bpC (rbB s.data.toList 0 (mh1 s.data.toList) 3))) ∧ RdT w' g s 0 (mh2 s.data.toList) ∧ W.grownBy w' (some g)) := fun {g W} h => readBody_t _ 3 W h P1 hb
  have HX3 : Hid (∀ {g : Nat} {W : World}, RdT W g s 0 (mh2 s.data.toList) → Calls Tryd.prog 39 #[.pointer (some ⟨g, 0, none⟩), .string ⟨#[0]⟩, .slice none 0 0] W fun e w' => e = .returned (.string ⟨(exV s.data.toList (mh2 s.data.toList) [0]).toArray⟩) ∧ RdT w' g s 0 (mh3 s.data.toList) ∧ W.grownBy w' (some g)) := fun {g W} h => exp_t ⟨#[0]⟩ (by decide) _ W h P2 hb
  have HX4 : Hid (∀ {g : Nat} {W : World}, RdT W g s 0 (mh3 s.data.toList) → Calls Tryd.prog 41 #[.pointer (some ⟨g, 0, none⟩)] W fun e w' => e = .returned (.int .i64 (rcN s.data.toList (mh3 s.data.toList) : Nat)) ∧ RdT w' g s 0 (mh4 s.data.toList) ∧ W.grownBy w' (some g)) := fun {g W} h => readCount_t _ W h P3 hb
  have HX5 : Hid (∀ {g : Nat} {W : World}, RdT W g s 0 (mh4 s.data.toList) → Calls Tryd.prog 39 #[.pointer (some ⟨g, 0, none⟩), .string ⟨#[0]⟩, .slice none 0 0] W fun e w' => e = .returned (.string ⟨(exV s.data.toList (mh4 s.data.toList) [0]).toArray⟩) ∧ RdT w' g s 0 (mh5 s.data.toList) ∧ W.grownBy w' (some g)) := fun {g W} h => exp_t ⟨#[0]⟩ (by decide) _ W h P4 hb
  have HX6 : Hid (∀ {g : Nat} {W : World}, RdT W g s 0 (mh5 s.data.toList) → Calls Tryd.prog 43 #[.pointer (some ⟨g, 0, none⟩), .int .i64 32] W fun e w' => e = .returned (.string ⟨(tkN s.data.toList 0 (mh5 s.data.toList) 32 false).1.toArray⟩) ∧ RdT w' g s 0 (mh6 s.data.toList) ∧ W.grownBy w' (some g)) := fun {g W} h => bytes_t _ 32 W h P5 hb
  have HX7 : Hid (∀ {g : Nat} {W : World}, RdT W g s 0 (mh6 s.data.toList) → Calls Tryd.prog 44 #[.pointer (some ⟨g, 0, none⟩), .int .i64 2] W fun e w' => e = .returned (.int .i64 (nmV s.data.toList 0 (mh6 s.data.toList) 2 : Nat)) ∧ RdT w' g s 0 (mh7 s.data.toList) ∧ W.grownBy w' (some g)) := fun {g W} h => numK_t _ 2 (by decide) W h P6 hb
  have HX8 : Hid (∀ {g : Nat} {W : World}, RdT W g s 0 (mh7 s.data.toList) → Calls Tryd.prog 43 #[.pointer (some ⟨g, 0, none⟩), .int .i64 16] W fun e w' => e = .returned (.string ⟨(tkN s.data.toList 0 (mh7 s.data.toList) 16 false).1.toArray⟩) ∧ RdT w' g s 0 (mh8 s.data.toList) ∧ W.grownBy w' (some g)) := fun {g W} h => bytes_t _ 16 W h P7 hb
  have HX9 : Hid (∀ {g : Nat} {W : World}, RdT W g s 0 (mh8 s.data.toList) → Calls Tryd.prog 44 #[.pointer (some ⟨g, 0, none⟩), .int .i64 4] W fun e w' => e = .returned (.int .i64 (nmV s.data.toList 0 (mh8 s.data.toList) 4 : Nat)) ∧ RdT w' g s 0 (mh9 s.data.toList) ∧ W.grownBy w' (some g)) := fun {g W} h => numK_t _ 4 (by decide) W h P8 hb
  have HX10 : Hid (∀ {g : Nat} {W : World}, RdT W g s 0 (mh9 s.data.toList) → Calls Tryd.prog 45 #[.pointer (some ⟨g, 0, none⟩)] W fun e w' => e = .returned (.agg (brC (rdB s.data.toList 0 (mh9 s.data.toList)))) ∧ RdT w' g s 0 (mh10 s.data.toList) ∧ W.grownBy w' (some g)) := fun {g W} h => prRead_t _ W h P9 hb
  have HX11 : Hid (∀ {g : Nat} {W : World}, RdT W g s 0 (mh10 s.data.toList) → Calls Tryd.prog 44 #[.pointer (some ⟨g, 0, none⟩), .int .i64 1] W fun e w' => e = .returned (.int .i64 (nmV s.data.toList 0 (mh10 s.data.toList) 1 : Nat)) ∧ RdT w' g s 0 (mh11 s.data.toList) ∧ W.grownBy w' (some g)) := fun {g W} h => numK_t _ 1 (by decide) W h P10 hb
  have HI : Hid (∀ (k : Nat) {g : Nat} {W : World}, RdT W g s 0 (itS s.data.toList (mh11 s.data.toList) k) → Calls Tryd.prog 46 #[.pointer (some ⟨g, 0, none⟩)] W fun e w' => e = .returned (.agg (inC (riV s.data.toList (itS s.data.toList (mh11 s.data.toList) k)))) ∧ RdT w' g s 0 (itS s.data.toList (mh11 s.data.toList) (k + 1)) ∧ W.grownBy w' (some g)) := fun k {g W} h => readInst_t _ W h (HSP k) hb
  have hIs : Hid (∀ k, itV s.data.toList (mh11 s.data.toList) (k + 1) = itV s.data.toList (mh11 s.data.toList) k ++ [riV s.data.toList (itS s.data.toList (mh11 s.data.toList) k)]) := fun k => itV_succ _ _ k
  have hI0 : Hid (itV s.data.toList (mh11 s.data.toList) 0 = []) := rfl
  have hIl : Hid (∀ k, (itV s.data.toList (mh11 s.data.toList) k).length = k) := fun k => itV_len _ _ k
  have hS0 : Hid (itS s.data.toList (mh11 s.data.toList) 0 = mh11 s.data.toList) := rfl
  have hn64 := rcN_le s.data.toList (mh3 s.data.toList)
  have HT := Lib.hid (fun W => Tryd.strings_TrimRight_one ⟨(tkN s.data.toList 0 (mh5 s.data.toList) 32 false).1.toArray⟩ 0 (by decide) W (by
    show (tkN s.data.toList 0 (mh5 s.data.toList) 32 false).1.toArray.size ≤ _
    rw [List.size_toArray]
    rcases tkN_len s.data.toList 0 (mh5 s.data.toList) 32 false with q | q
    · have q' : (tkN s.data.toList 0 (mh5 s.data.toList) 32 false).1 = [] := q
      rw [q']; decide
    · have q' : (tkN s.data.toList 0 (mh5 s.data.toList) 32 false).1.length = 32 := q
      rw [q']; decide))
  have hF : Hid ((itS s.data.toList (mh11 s.data.toList) (rcN s.data.toList (mh3 s.data.toList))).2.1 = 0) := hF0
  have hM : Hid (M' = ⟨rbB s.data.toList 0 (mh1 s.data.toList) 3, ⟨(Lib.trimRightB (tkN s.data.toList 0 (mh5 s.data.toList) 32 false).1 0).toArray⟩, (nmV s.data.toList 0 (mh6 s.data.toList) 2 : Nat), ⟨(tkN s.data.toList 0 (mh7 s.data.toList) 16 false).1.toArray⟩, (nmV s.data.toList 0 (mh8 s.data.toList) 4 : Nat), rdB s.data.toList 0 (mh9 s.data.toList), (nmV s.data.toList 0 (mh10 s.data.toList) 1 : Nat)⟩) := hM'.symm
  have hI : Hid (itV s.data.toList (mh11 s.data.toList) (rcN s.data.toList (mh3 s.data.toList)) = I') := hI'
  clear hF0 hM' hI' HSP hls P1 P2 P3 P4 P5 P6 P7 P8 P9 P10 Q1 Q2 Q3 Q4 Q5 Q6 Q7 Q8 Q9 Q10 Q11
  obtain ⟨nmB, hnmB⟩ : ∃ nmB : ByteArray, nmB = ⟨(Lib.trimRightB (tkN s.data.toList 0 (mh5 s.data.toList) 32 false).1 0).toArray⟩ := ⟨_, rfl⟩
  obtain ⟨nm0, hnm0⟩ : ∃ nm0 : ByteArray, nm0 = ⟨(tkN s.data.toList 0 (mh5 s.data.toList) 32 false).1.toArray⟩ := ⟨_, rfl⟩
  obtain ⟨dg, hdg⟩ : ∃ dg : ByteArray, dg = ⟨(tkN s.data.toList 0 (mh7 s.data.toList) 16 false).1.toArray⟩ := ⟨_, rfl⟩
  replace HT : Hid (∀ W, Calls Tryd.prog 42 #[.string nm0, .string ⟨#[0]⟩] W fun e w' => e = .returned (.string nmB) ∧ w' = W) := fun W => by
    rw [hnmB, hnm0]
    exact HT.out W
  rw [← hnm0] at HX6
  rw [← hdg] at HX8
  rw [← hnmB, ← hdg] at hM
  clear hnmB hnm0 hdg
  generalize rcN s.data.toList (mh3 s.data.toList) = n at *
  generalize rbB s.data.toList 0 (mh1 s.data.toList) 3 = b at *
  generalize nmV s.data.toList 0 (mh6 s.data.toList) 2 = rv at *
  generalize nmV s.data.toList 0 (mh8 s.data.toList) 4 = co at *
  generalize rdB s.data.toList 0 (mh9 s.data.toList) = br at *
  generalize nmV s.data.toList 0 (mh10 s.data.toList) 1 = ho at *
  obtain ⟨XV, hXV⟩ : ∃ XV : Nat → Ins, XV = fun k => riV s.data.toList (itS s.data.toList (mh11 s.data.toList) k) := ⟨_, rfl⟩
  obtain ⟨SS, hSS⟩ : ∃ SS : Nat → RSt, SS = itS s.data.toList (mh11 s.data.toList) := ⟨_, rfl⟩
  obtain ⟨II, hII⟩ : ∃ II : Nat → List Ins, II = itV s.data.toList (mh11 s.data.toList) := ⟨_, rfl⟩
  have eX : ∀ k, riV s.data.toList (itS s.data.toList (mh11 s.data.toList) k) = XV k := fun k => by rw [hXV]
  simp only [eX] at HI hIs
  rw [← hSS] at HI hS0 hF
  rw [← hII] at hIs hI0 hIl hI
  clear hXV hSS hII eX
  generalize mh11 s.data.toList = t11 at *
  generalize mh10 s.data.toList = t10 at *
  generalize mh9 s.data.toList = t9 at *
  generalize mh8 s.data.toList = t8 at *
  generalize mh7 s.data.toList = t7 at *
  generalize mh6 s.data.toList = t6 at *
  generalize mh5 s.data.toList = t5 at *
  generalize mh4 s.data.toList = t4 at *
  generalize mh3 s.data.toList = t3 at *
  generalize mh2 s.data.toList = t2 at *
  generalize mh1 s.data.toList = t1 at *
  have HA1 := Blk.new w 34 (msC zMs (.slice none 0 0))
  have B1 : Below w.heap.size w (w.alloc (.cells (msC zMs (.slice none 0 0)) 34)) := (Below.refl _ _).alloc (Nat.le_refl _) _
  go_enter Tryd.func8, Tryd.ntmps8
  go_upto_region 1 with (refine alloc_blk 34 (msC zMs (.slice none 0 0)) (by rfl) rfl Tryd.msZero ?_)
  generalize w.alloc (.cells (msC zMs (.slice none 0 0)) 34) = w1 at *
  have hA1 := HA1.lt
  go_wp2_with fail
  refine (new_t s 0 _).mono ?_
  rintro e w2 ⟨rfl, HR2, b2⟩
  have HA2 := HA1.kept b2
  have B2 := B1.trans (b2.mono B1.size)
  have hAg : w.heap.size < w1.heap.size := hA1
  clear HA1 B1 b2
  generalize w1.heap.size = g at *
  clear hA1
  go_wp2_with fail
  refine (HX1.out HR2).mono ?_
  rintro e w3 ⟨rfl, HR3, g3⟩
  have HA3 := HA2.grown g3 (by simp; omega)
  have B3 := grown_belowA B2 g3 B2.size (by omega)
  clear HR2 HA2 B2 g3
  go_wp2_with fail
  refine (HX2.out HR3).mono ?_
  rintro e w4 ⟨rfl, HR4, g4⟩
  have HA4 := HA3.grown g4 (by simp; omega)
  have B4 := grown_belowA B3 g4 B3.size (by omega)
  clear HR3 HA3 B3 g4
  have hgl4 := HR4.lt
  have HA4b := HA4.alloc (.cells (msC zMs (.slice none 0 0)) 34)
  have HR4b := HR4.al (.cells (msC zMs (.slice none 0 0)) 34)
  have B4b := B4.alloc B4.size (.cells (msC zMs (.slice none 0 0)) 34)
  go_upto_region 4 with (first
    | (refine build_blk (t := 34) (msC ⟨b, ⟨#[]⟩, 0, ⟨#[]⟩, 0, ⟨0, 0, z6b⟩, 0⟩ (.slice none 0 0)) (by rfl) rfl (by kernel_rfl) ?_)
    | (refine alloc_blk 34 (msC zMs (.slice none 0 0)) (by rfl) rfl Tryd.msZero ?_)
    | (refine store_blk (k := 0) 34 (.agg (msC ⟨b, ⟨#[]⟩, 0, ⟨#[]⟩, 0, ⟨0, 0, z6b⟩, 0⟩ (.slice none 0 0))) (msC ⟨b, ⟨#[]⟩, 0, ⟨#[]⟩, 0, ⟨0, 0, z6b⟩, 0⟩ (.slice none 0 0)) (by rfl) rfl rfl rfl (Blk.new w4 _ _) (by kernel_rfl) (show (45 : Nat) ≤ 45 from Nat.le_refl 45) (by rfl) (st_whole _ _ rfl) ?_; intro w5 HV5 b5 g5))
  (try simp only [Act.put, List.setIfInBounds_toArray, List.set_cons_zero, List.set_cons_succ])
  have hgV : g < w4.heap.size := hgl4
  have HA5 := HA4b.below b5 (by omega)
  have HR5 := HR4b.other (Blk.new w4 _ _) (by decide) (by decide) g5
  have B5 := B4b.trans (b5.mono (by omega))
  clear HR4 HA4 B4 HA4b HR4b B4b b5 g5 hgl4
  generalize w4.heap.size = V at *
  go_wp2_with fail
  refine (HX3.out HR5).mono ?_
  rintro e w6 ⟨rfl, HR6, g6⟩
  have HA6 := HA5.grown g6 (by simp; omega)
  have B6 := grown_belowA B5 g6 B5.size (by omega)
  have HV6 := HV5.grown g6 (by simp; omega)
  clear HR5 HA5 B5 HV5 g6
  go_wp2_with fail
  refine (HX4.out HR6).mono ?_
  rintro e w7 ⟨rfl, HR7, g7⟩
  have HA7 := HA6.grown g7 (by simp; omega)
  have B7 := grown_belowA B6 g7 B6.size (by omega)
  have HV7 := HV6.grown g7 (by simp; omega)
  clear HR6 HA6 B6 HV6 g7
  go_wp2_with fail
  refine (HX5.out HR7).mono ?_
  rintro e w8 ⟨rfl, HR8, g8⟩
  have HA8 := HA7.grown g8 (by simp; omega)
  have B8 := grown_belowA B7 g8 B7.size (by omega)
  have HV8 := HV7.grown g8 (by simp; omega)
  clear HR7 HA7 B7 HV7 g8
  go_wp2_with fail
  refine (HX6.out HR8).mono ?_
  rintro e w9 ⟨rfl, HR9, g9⟩
  have HA9 := HA8.grown g9 (by simp; omega)
  have B9 := grown_belowA B8 g9 B8.size (by omega)
  have HV9 := HV8.grown g9 (by simp; omega)
  clear HR8 HA8 B8 HV8 g9
  go_wp2_with fail
  refine (HT.out _).mono ?_
  rintro e w10 ⟨rfl, rfl⟩
  have HR10 := HR9
  have HA10 := HA9
  have B10 := B9
  have HV10 := HV9
  clear HR9 HA9 B9 HV9
  go_wp2_with (refine store_blk (k := 31) 9 (.string nmB) (msC ⟨b, nmB, 0, ⟨#[]⟩, 0, ⟨0, 0, z6b⟩, 0⟩ (.slice none 0 0)) (by rfl) rfl rfl rfl HV10 (by kernel_rfl) (show (31 + 1 : Nat) ≤ 45 by decide) (by rfl) rfl ?_; intro w11 HV11 b11 g11; have HA11 := HA10.below b11 (by omega); have HR11 := HR10.other HV10 (by decide) (by decide) g11; have B11 := B10.trans (b11.mono (by omega)))
  clear HR10 HA10 B10 HV10 b11 g11
  refine (HX7.out HR11).mono ?_
  rintro e w12 ⟨rfl, HR12, g12⟩
  have HA12 := HA11.grown g12 (by simp; omega)
  have B12 := grown_belowA B11 g12 B11.size (by omega)
  have HV12 := HV11.grown g12 (by simp; omega)
  clear HR11 HA11 B11 HV11 g12
  go_wp2_with (refine store_blk (k := 32) 3 (.int .i64 ((rv : Nat) : Int)) (msC ⟨b, nmB, ((rv : Nat) : Int), ⟨#[]⟩, 0, ⟨0, 0, z6b⟩, 0⟩ (.slice none 0 0)) (by rfl) rfl rfl rfl HV12 (by kernel_rfl) (show (32 + 1 : Nat) ≤ 45 by decide) (by rfl) rfl ?_; intro w13 HV13 b13 g13; have HA13 := HA12.below b13 (by omega); have HR13 := HR12.other HV12 (by decide) (by decide) g13; have B13 := B12.trans (b13.mono (by omega)))
  clear HR12 HA12 B12 HV12 b13 g13
  refine (HX8.out HR13).mono ?_
  rintro e w14 ⟨rfl, HR14, g14⟩
  have HA14 := HA13.grown g14 (by simp; omega)
  have B14 := grown_belowA B13 g14 B13.size (by omega)
  have HV14 := HV13.grown g14 (by simp; omega)
  clear HR13 HA13 B13 HV13 g14
  go_wp2_with (refine store_blk (k := 33) 9 (.string dg) (msC ⟨b, nmB, ((rv : Nat) : Int), dg, 0, ⟨0, 0, z6b⟩, 0⟩ (.slice none 0 0)) (by rfl) rfl rfl rfl HV14 (by kernel_rfl) (show (33 + 1 : Nat) ≤ 45 by decide) (by rfl) rfl ?_; intro w15 HV15 b15 g15; have HA15 := HA14.below b15 (by omega); have HR15 := HR14.other HV14 (by decide) (by decide) g15; have B15 := B14.trans (b15.mono (by omega)))
  clear HR14 HA14 B14 HV14 b15 g15
  refine (HX9.out HR15).mono ?_
  rintro e w16 ⟨rfl, HR16, g16⟩
  have HA16 := HA15.grown g16 (by simp; omega)
  have B16 := grown_belowA B15 g16 B15.size (by omega)
  have HV16 := HV15.grown g16 (by simp; omega)
  clear HR15 HA15 B15 HV15 g16
  go_wp2_with (refine store_blk (k := 34) 3 (.int .i64 ((co : Nat) : Int)) (msC ⟨b, nmB, ((rv : Nat) : Int), dg, ((co : Nat) : Int), ⟨0, 0, z6b⟩, 0⟩ (.slice none 0 0)) (by rfl) rfl rfl rfl HV16 (by kernel_rfl) (show (34 + 1 : Nat) ≤ 45 by decide) (by rfl) rfl ?_; intro w17 HV17 b17 g17; have HA17 := HA16.below b17 (by omega); have HR17 := HR16.other HV16 (by decide) (by decide) g17; have B17 := B16.trans (b17.mono (by omega)))
  clear HR16 HA16 B16 HV16 b17 g17
  refine (HX10.out HR17).mono ?_
  rintro e w18 ⟨rfl, HR18, g18⟩
  have HA18 := HA17.grown g18 (by simp; omega)
  have B18 := grown_belowA B17 g18 B17.size (by omega)
  have HV18 := HV17.grown g18 (by simp; omega)
  clear HR17 HA17 B17 HV17 g18
  go_wp2_with (refine store_blk (k := 35) 27 (.agg (brC br)) (msC ⟨b, nmB, ((rv : Nat) : Int), dg, ((co : Nat) : Int), br, 0⟩ (.slice none 0 0)) (by rfl) rfl rfl rfl HV18 (by kernel_rfl) (show (35 + 8 : Nat) ≤ 45 by decide) (by rfl) rfl ?_; intro w19 HV19 b19 g19; have HA19 := HA18.below b19 (by omega); have HR19 := HR18.other HV18 (by decide) (by decide) g19; have B19 := B18.trans (b19.mono (by omega)))
  clear HR18 HA18 B18 HV18 b19 g19
  refine (HX11.out HR19).mono ?_
  rintro e w20 ⟨rfl, HR20, g20⟩
  have HA20 := HA19.grown g20 (by simp; omega)
  have B20 := grown_belowA B19 g20 B19.size (by omega)
  have HV20 := HV19.grown g20 (by simp; omega)
  clear HR19 HA19 B19 HV19 g20
  go_wp2_with (refine store_blk (k := 43) 3 (.int .i64 ((ho : Nat) : Int)) (msC ⟨b, nmB, ((rv : Nat) : Int), dg, ((co : Nat) : Int), br, ((ho : Nat) : Int)⟩ (.slice none 0 0)) (by rfl) rfl rfl rfl HV20 (by kernel_rfl) (show (43 + 1 : Nat) ≤ 45 by decide) (by rfl) rfl ?_; intro w21 HV21 b21 g21; have HA21 := HA20.below b21 (by omega); have HR21 := HR20.other HV20 (by decide) (by decide) g21; have B21 := B20.trans (b21.mono (by omega)))
  clear HR20 HA20 B20 HV20 b21 g21
  obtain ⟨MM, hMM⟩ : ∃ MM : Ms, MM = ⟨b, nmB, ((rv : Nat) : Int), dg, ((co : Nat) : Int), br, ((ho : Nat) : Int)⟩ := ⟨_, rfl⟩
  rw [← hMM] at HV21
  rw [← hMM] at hM
  clear hMM
  have hgBs := HR21.lt
  have hVBs := HV21.lt
  have hABs := HA21.lt
  rw [← hS0.out] at HR21
  obtain ⟨Bs, hBs⟩ : ∃ Bs, Bs = w21.heap.size := ⟨_, rfl⟩
  rw [← hBs] at hgBs hVBs hABs
  have hB21 : Bs ≤ w21.heap.size := by omega
  have hwBs : w.heap.size ≤ Bs := by omega
  clear hBs
  go_loopw [41] (fun i wr => ∃ (k : Nat) (v : Value), k ≤ n ∧ i = .int .i64 k ∧ RdT wr g s 0 (SS k) ∧ Blk wr V 34 (msC MM v) ∧ Blk wr w.heap.size 34 (msC zMs (.slice none 0 0)) ∧ OwnI wr Bs v (II k) ∧ Below w.heap.size w wr ∧ Bs ≤ wr.heap.size) (fun i _ => n - (intOf i).toNat)
  case atStart => exact ⟨0, _, by omega, rfl, HR21, HV21, HA21, Or.inl ⟨hI0.out, rfl⟩, B21, hB21⟩
  case round =>
    clear HR21 HV21 HA21 B21 hB21
    obtain ⟨k, v, hk, rfl, HRk, HVk, HAk, HOk, Bk, hBk⟩ := hrel
    by_cases hlt : k < n
    · have q1 : (k : Int) < (n : Int) := by omega
      have q2 : decide ((k : Int) < (n : Int)) = true := decide_eq_true q1
      have hIk := hIs.out k
      have hll := hIl.out k
      have HIk := Lib.hid (fun (g : Nat) (W : World) (h : RdT W g s 0 (SS k)) => HI.out k h)
      generalize XV k = xx at *
      have c44 := HVk.cv 44 v rfl
      go_upto_region 15 with (fail)
      refine wp_region_noPanic ?_
      refine wp_region_S (fun w' => w'.cell? ⟨V, 44, none⟩ = some v) (fun j => j == 5) (by kernel_rfl) (c44) (fun hHeld => ?_)
      refine wpAnyS_take0 (i := 0) (v := ?_) rfl (by kernel_rfl) (by kernel_rfl) (by kernel_rfl) (by rfl) (fun _ _ _ h => h) (by rfl) ?_ (by assumption) ?_
      rotate_left
      · intro w; go_simp; (try with_reducible rfl)
      (try simp only [Act.put, List.getElem_toArray, List.getElem_cons_zero, List.getElem_cons_succ, List.setIfInBounds_toArray, List.set_cons_zero, List.set_cons_succ])
      refine wpAnyS_take (i := 1) (v := v) rfl (by kernel_rfl) (by kernel_rfl) (by kernel_rfl) (by rfl) (by kernel_rfl) (fun _ _ _ h => h) (Or.inl ⟨by rfl, fun w hSw => by (try dsimp only at hSw); go_simp⟩) (by assumption) ?_
      (try simp only [Act.put, List.getElem_toArray, List.getElem_cons_zero, List.getElem_cons_succ, List.setIfInBounds_toArray, List.set_cons_zero, List.set_cons_succ])
      refine wpAnyS_take0 (i := 2) (v := ?_) rfl (by kernel_rfl) (by kernel_rfl) (by kernel_rfl) (by rfl) (fun _ _ _ h => h) (by rfl) ?_ (by assumption) ?_
      rotate_left
      · intro w; go_simp; (try with_reducible rfl)
      (try simp only [Act.put, List.getElem_toArray, List.getElem_cons_zero, List.getElem_cons_succ, List.setIfInBounds_toArray, List.set_cons_zero, List.set_cons_succ])
      refine wpAnyS_one (r := 3) (by kernel_rfl) rfl (by rfl) (by rfl) (fun K hK => ?_)
      (try simp only [List.getElem_toArray, List.getElem_cons_zero, List.getElem_cons_succ])
      go_simp
      go_at_call 46; (refine (HIk.out _ _ (show RdT wr.drew g s 0 (SS k) from HRk)).mono ?_); rintro e u1 ⟨rfl, KR1, k1⟩; have KV1 := HVk.drew.grown k1 (by simp; omega); have KA1 := HAk.drew.grown k1 (by simp; omega); have KO1 := (show OwnI wr.drew Bs v (II k) from HOk).grown k1 (fun q hq => by cases hq; exact hgBs); have C1 := grown_belowA Bk.drew k1 Bk.drew.size (by omega); have hC1 : Bs ≤ u1.heap.size := Nat.le_trans (show Bs ≤ wr.drew.heap.size from hBk) k1.size; have d44 := KV1.cv 44 v rfl
      refine hK _ _ ?_ (fun hHeld => ?_)
      · exact d44
      clear hK K
      (try simp only [Act.put, List.getElem_toArray, List.getElem_cons_zero, List.getElem_cons_succ, List.setIfInBounds_toArray, List.set_cons_zero, List.set_cons_succ])
      refine wpAnyS_one (r := 4) (by kernel_rfl) rfl (by rfl) (by rfl) (fun K hK => ?_)
      (try simp only [List.getElem_toArray, List.getElem_cons_zero, List.getElem_cons_succ])
      refine wp_buildSlice 32 111 1 _ rfl (inC xx) i0 (.agg (inC zIns)) Tryd.underlying32 hi hz0 (by rw [hz1]; decide) (by rw [hz1]; decide) (by rw [hz1]; simp only [List.map_toArray, List.map_cons, List.map_nil]; exact fill_in xx) ?_
      have KR2 := KR1.al (.cells (inC xx) 111)
      have KV2 := KV1.alloc (.cells (inC xx) 111)
      have KA2 := KA1.alloc (.cells (inC xx) 111)
      have KO2 := KO1.alloc (.cells (inC xx) 111)
      have KG2 := Blk.new u1 111 (inC xx)
      have C2 := C1.alloc C1.size (.cells (inC xx) 111)
      have hC2 : Bs ≤ (u1.alloc (.cells (inC xx) 111)).heap.size := Nat.le_trans hC1 (by simp)
      have e44 := KV2.cv 44 v rfl
      generalize u1.alloc (.cells (inC xx) 111) = u2 at *
      generalize u1.heap.size = G at *
      refine hK _ _ ?_ (fun hHeld => ?_)
      · exact e44
      clear hK K
      (try simp only [Act.put, List.getElem_toArray, List.getElem_cons_zero, List.getElem_cons_succ, List.setIfInBounds_toArray, List.set_cons_zero, List.set_cons_succ])
      refine wpAnyS_last (r := 5) (by kernel_rfl) rfl (by rfl) (by rfl) (fun K hK => ?_)
      (try simp only [List.getElem_toArray, List.getElem_cons_zero, List.getElem_cons_succ])
      refine own_append xx rfl rfl rfl KO2 KG2 (by rw [hll]; omega) hC2 (fun v3 u3 KO3 b3 R3 => ?_)
      have KR3 := R3 _ _ _ _ KR2
      have KV3 := KV2.below b3 hVBs
      have KA3 := KA2.below b3 hABs
      have C3 := C2.trans (b3.mono hwBs)
      have hC3 := Nat.le_trans hC2 b3.size
      obtain ⟨a3, c3, hv3, -⟩ := KO3.inL
      subst hv3
      refine hK _ _ ?_
      clear hK K
      (try simp only [Act.put, List.getElem_toArray, List.getElem_cons_zero, List.getElem_cons_succ, List.setIfInBounds_toArray, List.set_cons_zero, List.set_cons_succ])
      refine wpAny_take (i := 6) (v := ?_) rfl (by kernel_rfl) (by kernel_rfl) (by kernel_rfl) (fun _ _ _ h => h) (Or.inl ⟨by rfl, ?_⟩) ?_
      rotate_left
      · intro w; go_simp; (try with_reducible rfl)
      (try simp only [Act.put, List.getElem_toArray, List.getElem_cons_zero, List.getElem_cons_succ, List.setIfInBounds_toArray, List.set_cons_zero, List.set_cons_succ])
      refine wpAny_one (r := 7) (by kernel_rfl) rfl (by rfl) (fun K hK => ?_)
      (try simp only [List.getElem_toArray, List.getElem_cons_zero, List.getElem_cons_succ])
      refine wp_store_op (k := 44) 32 (.slice a3 (II k ++ [xx]).length c3) (msC MM (.slice a3 (II k ++ [xx]).length c3)) (by rfl) rfl rfl KV3 (by kernel_rfl) (show (44 + 1 : Nat) ≤ 45 by decide) (by rfl) rfl (fun u4 KV4 b4 g4 => ?_)
      have KR4 := KR3.other KV3 (by decide) (by decide) g4
      have KA4 := KA3.grown g4 (by simp; omega)
      have KO4 := KO3.grown g4 (fun q hq => by cases hq; exact hVBs)
      have C4 := grown_belowA C3 g4 C3.size (by omega)
      have hC4 : Bs ≤ u4.heap.size := Nat.le_trans hC3 g4.size
      refine hK _ _ ?_
      clear hK K
      (try simp only [Act.put, List.getElem_toArray, List.getElem_cons_zero, List.getElem_cons_succ, List.setIfInBounds_toArray, List.set_cons_zero, List.set_cons_succ])
      refine wpAny_done (by kernel_rfl) ?_ _
      refine NoPanic.normal ?_
      rw [← hIk] at KO4 KV4
      go_wp2
      go_roundw
      case rel => exact ⟨k + 1, _, by omega, by go_num, KR4, KV4, KA4, KO4, C4, hC4⟩
      case measure => simp [intOf]; omega
    · obtain rfl : k = n := by omega
      have q2 : decide ((k : Int) < (k : Int)) = false := decide_eq_false (by omega)
      go_wp2_with fail
      refine (err_ok (SS k) _ HRk hF.out).mono ?_
      rintro e we ⟨rfl, rfl⟩
      rw [hI.out] at HOk
      have HWR := HAk
      obtain ⟨a', c', hv', -⟩ := HOk.inL
      subst hv'
      go_wp2_with (first
        | (refine load_blk (k := 0) 34 (msC MM (.slice a' I'.length c')) (by rfl) rfl rfl HVk (by kernel_rfl) (by kernel_rfl) rfl ?_)
        | (refine store_blk (k := 0) 34 (.agg (msC MM (.slice a' I'.length c'))) (msC MM (.slice a' I'.length c')) (by rfl) rfl rfl rfl HWR (by kernel_rfl) (show (45 : Nat) ≤ 45 from Nat.le_refl 45) (by rfl) (st_whole _ _ rfl) ?_; intro wz HZ bz gz; have HOz := HOk.grown gz (fun q hq => by cases hq; exact hABs); have Bz := grown_belowA Bk gz Bk.size (by omega)))
      exact bodyPost_ret (results_blk_tmp rfl rfl HZ (by kernel_rfl) (by kernel_rfl)) rfl ⟨⟨_, by rw [hM.out]; rfl, OwnI.mono HOz hwBs⟩, Bz⟩

end Go.Proofs.YtdjljnpbnhampaaDoor

namespace Go.Proofs.YtdjljnpbnhampaaDoor
open Go.RowKit
attribute [local go_sem ↓] Go.wp_at_zero Go.wp_at_succ
set_option linter.unusedSimpArgs false
set_option linter.unusedVariables false
set_option maxRecDepth 100000

theorem sb9_leB (l : List UInt8) (st : RSt) (h : st.1 ≤ l.length) : (sb9 l 0 st).1 ≤ l.length :=
  nmS_le _ _ _ _ (nmS_le _ _ _ _ (nmS_le _ _ _ _ (nmS_le _ _ _ _ (rpSt_le _ _ _ (rdBs_le _ _ _ (nmS_le _ _ _ _ (rdBs_le _ _ _ (nmS_le _ _ _ _ h))))))))

set_option maxHeartbeats 12800000 in
theorem msRead_bad (s : ByteArray) (w : World) (hs : s.size ≤ 100000) (e0 : Int) (x0 : Nat) (he : e0 ≠ 0) (hF0 : (mhF s.data.toList).2 = (e0, (x0 : Int))) :
    Calls Tryd.prog 8 #[.string s] w (ReadsAs (msC zMs (.slice none 0 0)) e0 x0 w) := by
  have hb : 0 + s.size ≤ 281474976710656 := by omega
  have hls : s.data.toList.length = s.size := by simp
  obtain ⟨i0, hi, hz0, hz1, hz2⟩ := info_parts Tryd.inParts
  have Q1 : (mh1 s.data.toList).1 ≤ s.data.toList.length := exS_le _ _ _ (Nat.zero_le _)
  have Q2 : (mh2 s.data.toList).1 ≤ s.data.toList.length := sb9_leB _ _ Q1
  have Q3 : (mh3 s.data.toList).1 ≤ s.data.toList.length := exS_le _ _ _ Q2
  have Q4 : (mh4 s.data.toList).1 ≤ s.data.toList.length := rcS_le _ _ Q3
  have Q5 : (mh5 s.data.toList).1 ≤ s.data.toList.length := exS_le _ _ _ Q4
  have Q6 : (mh6 s.data.toList).1 ≤ s.data.toList.length := tkN_le _ _ _ _ _ Q5
  have Q7 : (mh7 s.data.toList).1 ≤ s.data.toList.length := nmS_le _ _ _ _ Q6
  have Q8 : (mh8 s.data.toList).1 ≤ s.data.toList.length := tkN_le _ _ _ _ _ Q7
  have Q9 : (mh9 s.data.toList).1 ≤ s.data.toList.length := nmS_le _ _ _ _ Q8
  have Q10 : (mh10 s.data.toList).1 ≤ s.data.toList.length := rdBs_le _ _ _ Q9
  have Q11 : (mh11 s.data.toList).1 ≤ s.data.toList.length := nmS_le _ _ _ _ Q10
  have HSP : ∀ k, (itS s.data.toList (mh11 s.data.toList) k).1 ≤ s.size := fun k => by have q := itS_le s.data.toList _ Q11 k; rw [hls] at q; exact q
  have P1 := Q1
  rw [hls] at P1
  have P2 := Q2
  rw [hls] at P2
  have P3 := Q3
  rw [hls] at P3
  have P4 := Q4
  rw [hls] at P4
  have P5 := Q5
  rw [hls] at P5
  have P6 := Q6
  rw [hls] at P6
  have P7 := Q7
  rw [hls] at P7
  have P8 := Q8
  rw [hls] at P8
  have P9 := Q9
  rw [hls] at P9
  have P10 := Q10
  rw [hls] at P10
  have HX1 : Hid (∀ {g : Nat} {W : World}, RdT W g s 0 (0, 0, -1) → Calls Tryd.prog 39 #[.pointer (some ⟨g, 0, none⟩), .string ⟨#[0, 0, 3, 2]⟩, .slice none 0 0] W fun e w' => e = .returned (.string ⟨(exV s.data.toList (0, 0, -1) [0, 0, 3, 2]).toArray⟩) ∧ RdT w' g s 0 (mh1 s.data.toList) ∧ W.grownBy w' (some g)) := fun {g W} h => exp_t ⟨#[0, 0, 3, 2]⟩ (by decide) _ W h (Nat.zero_le _) hb
  have HX2 : Hid (∀ {g : Nat} {W : World}, RdT W g s 0 (mh1 s.data.toList) → Calls Tryd.prog 40 #[.pointer (some ⟨g, 0, none⟩), .int .i64 3] W fun e w' => e = .returned (.agg (bpC (rbB s.data.toList 0 (mh1 s.data.toList) 3))) ∧ RdT w' g s 0 (mh2 s.data.toList) ∧ W.grownBy w' (some g)) := fun {g W} h => readBody_t _ 3 W h P1 hb
  have HX3 : Hid (∀ {g : Nat} {W : World}, RdT W g s 0 (mh2 s.data.toList) → Calls Tryd.prog 39 #[.pointer (some ⟨g, 0, none⟩), .string ⟨#[0]⟩, .slice none 0 0] W fun e w' => e = .returned (.string ⟨(exV s.data.toList (mh2 s.data.toList) [0]).toArray⟩) ∧ RdT w' g s 0 (mh3 s.data.toList) ∧ W.grownBy w' (some g)) := fun {g W} h => exp_t ⟨#[0]⟩ (by decide) _ W h P2 hb
  have HX4 : Hid (∀ {g : Nat} {W : World}, RdT W g s 0 (mh3 s.data.toList) → Calls Tryd.prog 41 #[.pointer (some ⟨g, 0, none⟩)] W fun e w' => e = .returned (.int .i64 (rcN s.data.toList (mh3 s.data.toList) : Nat)) ∧ RdT w' g s 0 (mh4 s.data.toList) ∧ W.grownBy w' (some g)) := fun {g W} h => readCount_t _ W h P3 hb
  have HX5 : Hid (∀ {g : Nat} {W : World}, RdT W g s 0 (mh4 s.data.toList) → Calls Tryd.prog 39 #[.pointer (some ⟨g, 0, none⟩), .string ⟨#[0]⟩, .slice none 0 0] W fun e w' => e = .returned (.string ⟨(exV s.data.toList (mh4 s.data.toList) [0]).toArray⟩) ∧ RdT w' g s 0 (mh5 s.data.toList) ∧ W.grownBy w' (some g)) := fun {g W} h => exp_t ⟨#[0]⟩ (by decide) _ W h P4 hb
  have HX6 : Hid (∀ {g : Nat} {W : World}, RdT W g s 0 (mh5 s.data.toList) → Calls Tryd.prog 43 #[.pointer (some ⟨g, 0, none⟩), .int .i64 32] W fun e w' => e = .returned (.string ⟨(tkN s.data.toList 0 (mh5 s.data.toList) 32 false).1.toArray⟩) ∧ RdT w' g s 0 (mh6 s.data.toList) ∧ W.grownBy w' (some g)) := fun {g W} h => bytes_t _ 32 W h P5 hb
  have HX7 : Hid (∀ {g : Nat} {W : World}, RdT W g s 0 (mh6 s.data.toList) → Calls Tryd.prog 44 #[.pointer (some ⟨g, 0, none⟩), .int .i64 2] W fun e w' => e = .returned (.int .i64 (nmV s.data.toList 0 (mh6 s.data.toList) 2 : Nat)) ∧ RdT w' g s 0 (mh7 s.data.toList) ∧ W.grownBy w' (some g)) := fun {g W} h => numK_t _ 2 (by decide) W h P6 hb
  have HX8 : Hid (∀ {g : Nat} {W : World}, RdT W g s 0 (mh7 s.data.toList) → Calls Tryd.prog 43 #[.pointer (some ⟨g, 0, none⟩), .int .i64 16] W fun e w' => e = .returned (.string ⟨(tkN s.data.toList 0 (mh7 s.data.toList) 16 false).1.toArray⟩) ∧ RdT w' g s 0 (mh8 s.data.toList) ∧ W.grownBy w' (some g)) := fun {g W} h => bytes_t _ 16 W h P7 hb
  have HX9 : Hid (∀ {g : Nat} {W : World}, RdT W g s 0 (mh8 s.data.toList) → Calls Tryd.prog 44 #[.pointer (some ⟨g, 0, none⟩), .int .i64 4] W fun e w' => e = .returned (.int .i64 (nmV s.data.toList 0 (mh8 s.data.toList) 4 : Nat)) ∧ RdT w' g s 0 (mh9 s.data.toList) ∧ W.grownBy w' (some g)) := fun {g W} h => numK_t _ 4 (by decide) W h P8 hb
  have HX10 : Hid (∀ {g : Nat} {W : World}, RdT W g s 0 (mh9 s.data.toList) → Calls Tryd.prog 45 #[.pointer (some ⟨g, 0, none⟩)] W fun e w' => e = .returned (.agg (brC (rdB s.data.toList 0 (mh9 s.data.toList)))) ∧ RdT w' g s 0 (mh10 s.data.toList) ∧ W.grownBy w' (some g)) := fun {g W} h => prRead_t _ W h P9 hb
  have HX11 : Hid (∀ {g : Nat} {W : World}, RdT W g s 0 (mh10 s.data.toList) → Calls Tryd.prog 44 #[.pointer (some ⟨g, 0, none⟩), .int .i64 1] W fun e w' => e = .returned (.int .i64 (nmV s.data.toList 0 (mh10 s.data.toList) 1 : Nat)) ∧ RdT w' g s 0 (mh11 s.data.toList) ∧ W.grownBy w' (some g)) := fun {g W} h => numK_t _ 1 (by decide) W h P10 hb
  have HI : Hid (∀ (k : Nat) {g : Nat} {W : World}, RdT W g s 0 (itS s.data.toList (mh11 s.data.toList) k) → Calls Tryd.prog 46 #[.pointer (some ⟨g, 0, none⟩)] W fun e w' => e = .returned (.agg (inC (riV s.data.toList (itS s.data.toList (mh11 s.data.toList) k)))) ∧ RdT w' g s 0 (itS s.data.toList (mh11 s.data.toList) (k + 1)) ∧ W.grownBy w' (some g)) := fun k {g W} h => readInst_t _ W h (HSP k) hb
  have hIs : Hid (∀ k, itV s.data.toList (mh11 s.data.toList) (k + 1) = itV s.data.toList (mh11 s.data.toList) k ++ [riV s.data.toList (itS s.data.toList (mh11 s.data.toList) k)]) := fun k => itV_succ _ _ k
  have hI0 : Hid (itV s.data.toList (mh11 s.data.toList) 0 = []) := rfl
  have hIl : Hid (∀ k, (itV s.data.toList (mh11 s.data.toList) k).length = k) := fun k => itV_len _ _ k
  have hS0 : Hid (itS s.data.toList (mh11 s.data.toList) 0 = mh11 s.data.toList) := rfl
  have hn64 := rcN_le s.data.toList (mh3 s.data.toList)
  have HT := Lib.hid (fun W => Tryd.strings_TrimRight_one ⟨(tkN s.data.toList 0 (mh5 s.data.toList) 32 false).1.toArray⟩ 0 (by decide) W (by
    show (tkN s.data.toList 0 (mh5 s.data.toList) 32 false).1.toArray.size ≤ _
    rw [List.size_toArray]
    rcases tkN_len s.data.toList 0 (mh5 s.data.toList) 32 false with q | q
    · have q' : (tkN s.data.toList 0 (mh5 s.data.toList) 32 false).1 = [] := q
      rw [q']; decide
    · have q' : (tkN s.data.toList 0 (mh5 s.data.toList) 32 false).1.length = 32 := q
      rw [q']; decide))
  have hF : Hid ((itS s.data.toList (mh11 s.data.toList) (rcN s.data.toList (mh3 s.data.toList))).2 = (e0, (x0 : Int))) := hF0
  clear hF0 HSP hls P1 P2 P3 P4 P5 P6 P7 P8 P9 P10 Q1 Q2 Q3 Q4 Q5 Q6 Q7 Q8 Q9 Q10 Q11
  obtain ⟨nmB, hnmB⟩ : ∃ nmB : ByteArray, nmB = ⟨(Lib.trimRightB (tkN s.data.toList 0 (mh5 s.data.toList) 32 false).1 0).toArray⟩ := ⟨_, rfl⟩
  obtain ⟨nm0, hnm0⟩ : ∃ nm0 : ByteArray, nm0 = ⟨(tkN s.data.toList 0 (mh5 s.data.toList) 32 false).1.toArray⟩ := ⟨_, rfl⟩
  obtain ⟨dg, hdg⟩ : ∃ dg : ByteArray, dg = ⟨(tkN s.data.toList 0 (mh7 s.data.toList) 16 false).1.toArray⟩ := ⟨_, rfl⟩
  replace HT : Hid (∀ W, Calls Tryd.prog 42 #[.string nm0, .string ⟨#[0]⟩] W fun e w' => e = .returned (.string nmB) ∧ w' = W) := fun W => by
    rw [hnmB, hnm0]
    exact HT.out W
  rw [← hnm0] at HX6
  rw [← hdg] at HX8
  clear hnmB hnm0 hdg
  generalize rcN s.data.toList (mh3 s.data.toList) = n at *
  generalize rbB s.data.toList 0 (mh1 s.data.toList) 3 = b at *
  generalize nmV s.data.toList 0 (mh6 s.data.toList) 2 = rv at *
  generalize nmV s.data.toList 0 (mh8 s.data.toList) 4 = co at *
  generalize rdB s.data.toList 0 (mh9 s.data.toList) = br at *
  generalize nmV s.data.toList 0 (mh10 s.data.toList) 1 = ho at *
  obtain ⟨XV, hXV⟩ : ∃ XV : Nat → Ins, XV = fun k => riV s.data.toList (itS s.data.toList (mh11 s.data.toList) k) := ⟨_, rfl⟩
  obtain ⟨SS, hSS⟩ : ∃ SS : Nat → RSt, SS = itS s.data.toList (mh11 s.data.toList) := ⟨_, rfl⟩
  obtain ⟨II, hII⟩ : ∃ II : Nat → List Ins, II = itV s.data.toList (mh11 s.data.toList) := ⟨_, rfl⟩
  have eX : ∀ k, riV s.data.toList (itS s.data.toList (mh11 s.data.toList) k) = XV k := fun k => by rw [hXV]
  simp only [eX] at HI hIs
  rw [← hSS] at HI hS0 hF
  rw [← hII] at hIs hI0 hIl
  clear hXV hSS hII eX
  generalize mh11 s.data.toList = t11 at *
  generalize mh10 s.data.toList = t10 at *
  generalize mh9 s.data.toList = t9 at *
  generalize mh8 s.data.toList = t8 at *
  generalize mh7 s.data.toList = t7 at *
  generalize mh6 s.data.toList = t6 at *
  generalize mh5 s.data.toList = t5 at *
  generalize mh4 s.data.toList = t4 at *
  generalize mh3 s.data.toList = t3 at *
  generalize mh2 s.data.toList = t2 at *
  generalize mh1 s.data.toList = t1 at *
  have HA1 := Blk.new w 34 (msC zMs (.slice none 0 0))
  have B1 : Below w.heap.size w (w.alloc (.cells (msC zMs (.slice none 0 0)) 34)) := (Below.refl _ _).alloc (Nat.le_refl _) _
  go_enter Tryd.func8, Tryd.ntmps8
  go_upto_region 1 with (refine alloc_blk 34 (msC zMs (.slice none 0 0)) (by rfl) rfl Tryd.msZero ?_)
  generalize w.alloc (.cells (msC zMs (.slice none 0 0)) 34) = w1 at *
  have hA1 := HA1.lt
  go_wp2_with fail
  refine (new_t s 0 _).mono ?_
  rintro e w2 ⟨rfl, HR2, b2⟩
  have HA2 := HA1.kept b2
  have B2 := B1.trans (b2.mono B1.size)
  have hAg : w.heap.size < w1.heap.size := hA1
  clear HA1 B1 b2
  generalize w1.heap.size = g at *
  clear hA1
  go_wp2_with fail
  refine (HX1.out HR2).mono ?_
  rintro e w3 ⟨rfl, HR3, g3⟩
  have HA3 := HA2.grown g3 (by simp; omega)
  have B3 := grown_belowA B2 g3 B2.size (by omega)
  clear HR2 HA2 B2 g3
  go_wp2_with fail
  refine (HX2.out HR3).mono ?_
  rintro e w4 ⟨rfl, HR4, g4⟩
  have HA4 := HA3.grown g4 (by simp; omega)
  have B4 := grown_belowA B3 g4 B3.size (by omega)
  clear HR3 HA3 B3 g4
  have hgl4 := HR4.lt
  have HA4b := HA4.alloc (.cells (msC zMs (.slice none 0 0)) 34)
  have HR4b := HR4.al (.cells (msC zMs (.slice none 0 0)) 34)
  have B4b := B4.alloc B4.size (.cells (msC zMs (.slice none 0 0)) 34)
  go_upto_region 4 with (first
    | (refine build_blk (t := 34) (msC ⟨b, ⟨#[]⟩, 0, ⟨#[]⟩, 0, ⟨0, 0, z6b⟩, 0⟩ (.slice none 0 0)) (by rfl) rfl (by kernel_rfl) ?_)
    | (refine alloc_blk 34 (msC zMs (.slice none 0 0)) (by rfl) rfl Tryd.msZero ?_)
    | (refine store_blk (k := 0) 34 (.agg (msC ⟨b, ⟨#[]⟩, 0, ⟨#[]⟩, 0, ⟨0, 0, z6b⟩, 0⟩ (.slice none 0 0))) (msC ⟨b, ⟨#[]⟩, 0, ⟨#[]⟩, 0, ⟨0, 0, z6b⟩, 0⟩ (.slice none 0 0)) (by rfl) rfl rfl rfl (Blk.new w4 _ _) (by kernel_rfl) (show (45 : Nat) ≤ 45 from Nat.le_refl 45) (by rfl) (st_whole _ _ rfl) ?_; intro w5 HV5 b5 g5))
  (try simp only [Act.put, List.setIfInBounds_toArray, List.set_cons_zero, List.set_cons_succ])
  have hgV : g < w4.heap.size := hgl4
  have HA5 := HA4b.below b5 (by omega)
  have HR5 := HR4b.other (Blk.new w4 _ _) (by decide) (by decide) g5
  have B5 := B4b.trans (b5.mono (by omega))
  clear HR4 HA4 B4 HA4b HR4b B4b b5 g5 hgl4
  generalize w4.heap.size = V at *
  go_wp2_with fail
  refine (HX3.out HR5).mono ?_
  rintro e w6 ⟨rfl, HR6, g6⟩
  have HA6 := HA5.grown g6 (by simp; omega)
  have B6 := grown_belowA B5 g6 B5.size (by omega)
  have HV6 := HV5.grown g6 (by simp; omega)
  clear HR5 HA5 B5 HV5 g6
  go_wp2_with fail
  refine (HX4.out HR6).mono ?_
  rintro e w7 ⟨rfl, HR7, g7⟩
  have HA7 := HA6.grown g7 (by simp; omega)
  have B7 := grown_belowA B6 g7 B6.size (by omega)
  have HV7 := HV6.grown g7 (by simp; omega)
  clear HR6 HA6 B6 HV6 g7
  go_wp2_with fail
  refine (HX5.out HR7).mono ?_
  rintro e w8 ⟨rfl, HR8, g8⟩
  have HA8 := HA7.grown g8 (by simp; omega)
  have B8 := grown_belowA B7 g8 B7.size (by omega)
  have HV8 := HV7.grown g8 (by simp; omega)
  clear HR7 HA7 B7 HV7 g8
  go_wp2_with fail
  refine (HX6.out HR8).mono ?_
  rintro e w9 ⟨rfl, HR9, g9⟩
  have HA9 := HA8.grown g9 (by simp; omega)
  have B9 := grown_belowA B8 g9 B8.size (by omega)
  have HV9 := HV8.grown g9 (by simp; omega)
  clear HR8 HA8 B8 HV8 g9
  go_wp2_with fail
  refine (HT.out _).mono ?_
  rintro e w10 ⟨rfl, rfl⟩
  have HR10 := HR9
  have HA10 := HA9
  have B10 := B9
  have HV10 := HV9
  clear HR9 HA9 B9 HV9
  go_wp2_with (refine store_blk (k := 31) 9 (.string nmB) (msC ⟨b, nmB, 0, ⟨#[]⟩, 0, ⟨0, 0, z6b⟩, 0⟩ (.slice none 0 0)) (by rfl) rfl rfl rfl HV10 (by kernel_rfl) (show (31 + 1 : Nat) ≤ 45 by decide) (by rfl) rfl ?_; intro w11 HV11 b11 g11; have HA11 := HA10.below b11 (by omega); have HR11 := HR10.other HV10 (by decide) (by decide) g11; have B11 := B10.trans (b11.mono (by omega)))
  clear HR10 HA10 B10 HV10 b11 g11
  refine (HX7.out HR11).mono ?_
  rintro e w12 ⟨rfl, HR12, g12⟩
  have HA12 := HA11.grown g12 (by simp; omega)
  have B12 := grown_belowA B11 g12 B11.size (by omega)
  have HV12 := HV11.grown g12 (by simp; omega)
  clear HR11 HA11 B11 HV11 g12
  go_wp2_with (refine store_blk (k := 32) 3 (.int .i64 ((rv : Nat) : Int)) (msC ⟨b, nmB, ((rv : Nat) : Int), ⟨#[]⟩, 0, ⟨0, 0, z6b⟩, 0⟩ (.slice none 0 0)) (by rfl) rfl rfl rfl HV12 (by kernel_rfl) (show (32 + 1 : Nat) ≤ 45 by decide) (by rfl) rfl ?_; intro w13 HV13 b13 g13; have HA13 := HA12.below b13 (by omega); have HR13 := HR12.other HV12 (by decide) (by decide) g13; have B13 := B12.trans (b13.mono (by omega)))
  clear HR12 HA12 B12 HV12 b13 g13
  refine (HX8.out HR13).mono ?_
  rintro e w14 ⟨rfl, HR14, g14⟩
  have HA14 := HA13.grown g14 (by simp; omega)
  have B14 := grown_belowA B13 g14 B13.size (by omega)
  have HV14 := HV13.grown g14 (by simp; omega)
  clear HR13 HA13 B13 HV13 g14
  go_wp2_with (refine store_blk (k := 33) 9 (.string dg) (msC ⟨b, nmB, ((rv : Nat) : Int), dg, 0, ⟨0, 0, z6b⟩, 0⟩ (.slice none 0 0)) (by rfl) rfl rfl rfl HV14 (by kernel_rfl) (show (33 + 1 : Nat) ≤ 45 by decide) (by rfl) rfl ?_; intro w15 HV15 b15 g15; have HA15 := HA14.below b15 (by omega); have HR15 := HR14.other HV14 (by decide) (by decide) g15; have B15 := B14.trans (b15.mono (by omega)))
  clear HR14 HA14 B14 HV14 b15 g15
  refine (HX9.out HR15).mono ?_
  rintro e w16 ⟨rfl, HR16, g16⟩
  have HA16 := HA15.grown g16 (by simp; omega)
  have B16 := grown_belowA B15 g16 B15.size (by omega)
  have HV16 := HV15.grown g16 (by simp; omega)
  clear HR15 HA15 B15 HV15 g16
  go_wp2_with (refine store_blk (k := 34) 3 (.int .i64 ((co : Nat) : Int)) (msC ⟨b, nmB, ((rv : Nat) : Int), dg, ((co : Nat) : Int), ⟨0, 0, z6b⟩, 0⟩ (.slice none 0 0)) (by rfl) rfl rfl rfl HV16 (by kernel_rfl) (show (34 + 1 : Nat) ≤ 45 by decide) (by rfl) rfl ?_; intro w17 HV17 b17 g17; have HA17 := HA16.below b17 (by omega); have HR17 := HR16.other HV16 (by decide) (by decide) g17; have B17 := B16.trans (b17.mono (by omega)))
  clear HR16 HA16 B16 HV16 b17 g17
  refine (HX10.out HR17).mono ?_
  rintro e w18 ⟨rfl, HR18, g18⟩
  have HA18 := HA17.grown g18 (by simp; omega)
  have B18 := grown_belowA B17 g18 B17.size (by omega)
  have HV18 := HV17.grown g18 (by simp; omega)
  clear HR17 HA17 B17 HV17 g18
  go_wp2_with (refine store_blk (k := 35) 27 (.agg (brC br)) (msC ⟨b, nmB, ((rv : Nat) : Int), dg, ((co : Nat) : Int), br, 0⟩ (.slice none 0 0)) (by rfl) rfl rfl rfl HV18 (by kernel_rfl) (show (35 + 8 : Nat) ≤ 45 by decide) (by rfl) rfl ?_; intro w19 HV19 b19 g19; have HA19 := HA18.below b19 (by omega); have HR19 := HR18.other HV18 (by decide) (by decide) g19; have B19 := B18.trans (b19.mono (by omega)))
  clear HR18 HA18 B18 HV18 b19 g19
  refine (HX11.out HR19).mono ?_
  rintro e w20 ⟨rfl, HR20, g20⟩
  have HA20 := HA19.grown g20 (by simp; omega)
  have B20 := grown_belowA B19 g20 B19.size (by omega)
  have HV20 := HV19.grown g20 (by simp; omega)
  clear HR19 HA19 B19 HV19 g20
  go_wp2_with (refine store_blk (k := 43) 3 (.int .i64 ((ho : Nat) : Int)) (msC ⟨b, nmB, ((rv : Nat) : Int), dg, ((co : Nat) : Int), br, ((ho : Nat) : Int)⟩ (.slice none 0 0)) (by rfl) rfl rfl rfl HV20 (by kernel_rfl) (show (43 + 1 : Nat) ≤ 45 by decide) (by rfl) rfl ?_; intro w21 HV21 b21 g21; have HA21 := HA20.below b21 (by omega); have HR21 := HR20.other HV20 (by decide) (by decide) g21; have B21 := B20.trans (b21.mono (by omega)))
  clear HR20 HA20 B20 HV20 b21 g21
  obtain ⟨MM, hMM⟩ : ∃ MM : Ms, MM = ⟨b, nmB, ((rv : Nat) : Int), dg, ((co : Nat) : Int), br, ((ho : Nat) : Int)⟩ := ⟨_, rfl⟩
  rw [← hMM] at HV21
  clear hMM
  have hgBs := HR21.lt
  have hVBs := HV21.lt
  have hABs := HA21.lt
  rw [← hS0.out] at HR21
  obtain ⟨Bs, hBs⟩ : ∃ Bs, Bs = w21.heap.size := ⟨_, rfl⟩
  rw [← hBs] at hgBs hVBs hABs
  have hB21 : Bs ≤ w21.heap.size := by omega
  have hwBs : w.heap.size ≤ Bs := by omega
  clear hBs
  go_loopw [41] (fun i wr => ∃ (k : Nat) (v : Value), k ≤ n ∧ i = .int .i64 k ∧ RdT wr g s 0 (SS k) ∧ Blk wr V 34 (msC MM v) ∧ Blk wr w.heap.size 34 (msC zMs (.slice none 0 0)) ∧ OwnI wr Bs v (II k) ∧ Below w.heap.size w wr ∧ Bs ≤ wr.heap.size) (fun i _ => n - (intOf i).toNat)
  case atStart => exact ⟨0, _, by omega, rfl, HR21, HV21, HA21, Or.inl ⟨hI0.out, rfl⟩, B21, hB21⟩
  case round =>
    clear HR21 HV21 HA21 B21 hB21
    obtain ⟨k, v, hk, rfl, HRk, HVk, HAk, HOk, Bk, hBk⟩ := hrel
    by_cases hlt : k < n
    · have q1 : (k : Int) < (n : Int) := by omega
      have q2 : decide ((k : Int) < (n : Int)) = true := decide_eq_true q1
      have hIk := hIs.out k
      have hll := hIl.out k
      have HIk := Lib.hid (fun (g : Nat) (W : World) (h : RdT W g s 0 (SS k)) => HI.out k h)
      generalize XV k = xx at *
      have c44 := HVk.cv 44 v rfl
      go_upto_region 15 with (fail)
      refine wp_region_noPanic ?_
      refine wp_region_S (fun w' => w'.cell? ⟨V, 44, none⟩ = some v) (fun j => j == 5) (by kernel_rfl) (c44) (fun hHeld => ?_)
      refine wpAnyS_take0 (i := 0) (v := ?_) rfl (by kernel_rfl) (by kernel_rfl) (by kernel_rfl) (by rfl) (fun _ _ _ h => h) (by rfl) ?_ (by assumption) ?_
      rotate_left
      · intro w; go_simp; (try with_reducible rfl)
      (try simp only [Act.put, List.getElem_toArray, List.getElem_cons_zero, List.getElem_cons_succ, List.setIfInBounds_toArray, List.set_cons_zero, List.set_cons_succ])
      refine wpAnyS_take (i := 1) (v := v) rfl (by kernel_rfl) (by kernel_rfl) (by kernel_rfl) (by rfl) (by kernel_rfl) (fun _ _ _ h => h) (Or.inl ⟨by rfl, fun w hSw => by (try dsimp only at hSw); go_simp⟩) (by assumption) ?_
      (try simp only [Act.put, List.getElem_toArray, List.getElem_cons_zero, List.getElem_cons_succ, List.setIfInBounds_toArray, List.set_cons_zero, List.set_cons_succ])
      refine wpAnyS_take0 (i := 2) (v := ?_) rfl (by kernel_rfl) (by kernel_rfl) (by kernel_rfl) (by rfl) (fun _ _ _ h => h) (by rfl) ?_ (by assumption) ?_
      rotate_left
      · intro w; go_simp; (try with_reducible rfl)
      (try simp only [Act.put, List.getElem_toArray, List.getElem_cons_zero, List.getElem_cons_succ, List.setIfInBounds_toArray, List.set_cons_zero, List.set_cons_succ])
      refine wpAnyS_one (r := 3) (by kernel_rfl) rfl (by rfl) (by rfl) (fun K hK => ?_)
      (try simp only [List.getElem_toArray, List.getElem_cons_zero, List.getElem_cons_succ])
      go_simp
      go_at_call 46; (refine (HIk.out _ _ (show RdT wr.drew g s 0 (SS k) from HRk)).mono ?_); rintro e u1 ⟨rfl, KR1, k1⟩; have KV1 := HVk.drew.grown k1 (by simp; omega); have KA1 := HAk.drew.grown k1 (by simp; omega); have KO1 := (show OwnI wr.drew Bs v (II k) from HOk).grown k1 (fun q hq => by cases hq; exact hgBs); have C1 := grown_belowA Bk.drew k1 Bk.drew.size (by omega); have hC1 : Bs ≤ u1.heap.size := Nat.le_trans (show Bs ≤ wr.drew.heap.size from hBk) k1.size; have d44 := KV1.cv 44 v rfl
      refine hK _ _ ?_ (fun hHeld => ?_)
      · exact d44
      clear hK K
      (try simp only [Act.put, List.getElem_toArray, List.getElem_cons_zero, List.getElem_cons_succ, List.setIfInBounds_toArray, List.set_cons_zero, List.set_cons_succ])
      refine wpAnyS_one (r := 4) (by kernel_rfl) rfl (by rfl) (by rfl) (fun K hK => ?_)
      (try simp only [List.getElem_toArray, List.getElem_cons_zero, List.getElem_cons_succ])
      refine wp_buildSlice 32 111 1 _ rfl (inC xx) i0 (.agg (inC zIns)) Tryd.underlying32 hi hz0 (by rw [hz1]; decide) (by rw [hz1]; decide) (by rw [hz1]; simp only [List.map_toArray, List.map_cons, List.map_nil]; exact fill_in xx) ?_
      have KR2 := KR1.al (.cells (inC xx) 111)
      have KV2 := KV1.alloc (.cells (inC xx) 111)
      have KA2 := KA1.alloc (.cells (inC xx) 111)
      have KO2 := KO1.alloc (.cells (inC xx) 111)
      have KG2 := Blk.new u1 111 (inC xx)
      have C2 := C1.alloc C1.size (.cells (inC xx) 111)
      have hC2 : Bs ≤ (u1.alloc (.cells (inC xx) 111)).heap.size := Nat.le_trans hC1 (by simp)
      have e44 := KV2.cv 44 v rfl
      generalize u1.alloc (.cells (inC xx) 111) = u2 at *
      generalize u1.heap.size = G at *
      refine hK _ _ ?_ (fun hHeld => ?_)
      · exact e44
      clear hK K
      (try simp only [Act.put, List.getElem_toArray, List.getElem_cons_zero, List.getElem_cons_succ, List.setIfInBounds_toArray, List.set_cons_zero, List.set_cons_succ])
      refine wpAnyS_last (r := 5) (by kernel_rfl) rfl (by rfl) (by rfl) (fun K hK => ?_)
      (try simp only [List.getElem_toArray, List.getElem_cons_zero, List.getElem_cons_succ])
      refine own_append xx rfl rfl rfl KO2 KG2 (by rw [hll]; omega) hC2 (fun v3 u3 KO3 b3 R3 => ?_)
      have KR3 := R3 _ _ _ _ KR2
      have KV3 := KV2.below b3 hVBs
      have KA3 := KA2.below b3 hABs
      have C3 := C2.trans (b3.mono hwBs)
      have hC3 := Nat.le_trans hC2 b3.size
      obtain ⟨a3, c3, hv3, -⟩ := KO3.inL
      subst hv3
      refine hK _ _ ?_
      clear hK K
      (try simp only [Act.put, List.getElem_toArray, List.getElem_cons_zero, List.getElem_cons_succ, List.setIfInBounds_toArray, List.set_cons_zero, List.set_cons_succ])
      refine wpAny_take (i := 6) (v := ?_) rfl (by kernel_rfl) (by kernel_rfl) (by kernel_rfl) (fun _ _ _ h => h) (Or.inl ⟨by rfl, ?_⟩) ?_
      rotate_left
      · intro w; go_simp; (try with_reducible rfl)
      (try simp only [Act.put, List.getElem_toArray, List.getElem_cons_zero, List.getElem_cons_succ, List.setIfInBounds_toArray, List.set_cons_zero, List.set_cons_succ])
      refine wpAny_one (r := 7) (by kernel_rfl) rfl (by rfl) (fun K hK => ?_)
      (try simp only [List.getElem_toArray, List.getElem_cons_zero, List.getElem_cons_succ])
      refine wp_store_op (k := 44) 32 (.slice a3 (II k ++ [xx]).length c3) (msC MM (.slice a3 (II k ++ [xx]).length c3)) (by rfl) rfl rfl KV3 (by kernel_rfl) (show (44 + 1 : Nat) ≤ 45 by decide) (by rfl) rfl (fun u4 KV4 b4 g4 => ?_)
      have KR4 := KR3.other KV3 (by decide) (by decide) g4
      have KA4 := KA3.grown g4 (by simp; omega)
      have KO4 := KO3.grown g4 (fun q hq => by cases hq; exact hVBs)
      have C4 := grown_belowA C3 g4 C3.size (by omega)
      have hC4 : Bs ≤ u4.heap.size := Nat.le_trans hC3 g4.size
      refine hK _ _ ?_
      clear hK K
      (try simp only [Act.put, List.getElem_toArray, List.getElem_cons_zero, List.getElem_cons_succ, List.setIfInBounds_toArray, List.set_cons_zero, List.set_cons_succ])
      refine wpAny_done (by kernel_rfl) ?_ _
      refine NoPanic.normal ?_
      rw [← hIk] at KO4 KV4
      go_wp2
      go_roundw
      case rel => exact ⟨k + 1, _, by omega, by go_num, KR4, KV4, KA4, KO4, C4, hC4⟩
      case measure => simp [intOf]; omega
    · obtain rfl : k = n := by omega
      have q2 : decide ((k : Int) < (k : Int)) = false := decide_eq_false (by omega)
      have hn0 : ¬ (SS k).2.1 = 0 := by rw [hF.out]; exact he
      go_wp2_with fail
      refine (err_t (SS k) _ HRk hn0).mono ?_
      rintro e we ⟨rfl, hf, ke⟩
      rw [hF.out] at hf
      have HWR := HAk.kept ke
      have Be := Bk.trans (ke.mono Bk.size)
      have hAw : w.heap.size < wr.heap.size := HAk.lt
      go_wp2_with (first
        | (refine build_blk (t := 34) (msC zMs (.slice none 0 0)) (by rfl) rfl (by kernel_rfl) ?_)
        | (refine store_blk (k := 0) 34 (.agg (msC zMs (.slice none 0 0))) (msC zMs (.slice none 0 0)) (by rfl) rfl rfl rfl HWR (by kernel_rfl) (show (45 : Nat) ≤ 45 from Nat.le_refl 45) (by rfl) (st_whole _ _ rfl) ?_; intro wz HZ bz gz; have hfz := hf.kept gz (by simp; omega); have Bz := grown_belowA Be gz Be.size (by omega)))
      exact bodyPost_ret (results_blk_tmp rfl rfl HZ (by kernel_rfl) (by kernel_rfl)) rfl ⟨_, rfl, Or.inr ⟨he, _, rfl, hfz⟩, Bz⟩

end Go.Proofs.YtdjljnpbnhampaaDoor

namespace Go.Proofs.YtdjljnpbnhampaaDoor
open Go.RowKit
set_option linter.unusedVariables false
set_option linter.unusedSimpArgs false

theorem inIn_congr {w : World} {a : Option Addr} {l l' : List Ins} (hl : l.length = l'.length) (h : ∀ j (h1 : j < l.length) (h2 : j < l'.length), inC l[j] = inC l'[j]) (hI : InIn w a l) : InIn w a l' := by
  rcases hI with h0 | ⟨b, o, e1, e2, e3⟩
  · subst h0
    left
    exact List.length_eq_zero_iff.1 (by rw [← hl]; rfl)
  · refine Or.inr ⟨b, o, e1, e2, fun j hj => ?_⟩
    have hj' : j < l.length := by omega
    rw [← h j hj' hj]
    exact e3 j hj'

theorem insAt_get (s : ByteArray) (p n j : Nat) (h : j < (insAt s p n).length) : (insAt s p n)[j] = inAt s (p + 16 * j) := by
  have h' : j < ((List.range n).map fun k => inAt s (p + 16 * k)).length := h
  show ((List.range n).map fun k => inAt s (p + 16 * k))[j]'h' = _
  rw [List.getElem_map, List.getElem_range]

/-- An answer of Read. -/
def RdOk (M : Ms) (I : List Ins) (w : World) (r : Ending) (w' : World) : Prop :=
  (∃ a c, r = .returned (.tuple #[.agg (msC M (.slice a I.length c)), .nilIface]) ∧ InIn w' a I) ∧ Below w.heap.size w w'

theorem rdOk_of {s : ByteArray} (hs : s.size ≤ 100000) (h : allE s = none) (W : World) : Calls Tryd.prog 8 #[.string s] W (RdOk (msAt s) (insAt s 102 (cntAt s)) W) := by
  rcases all_ways s with ⟨e, x, h1, _, _⟩ | ⟨_, _, _, h3, h4, h5⟩
  · rw [h] at h1
    cases h1
  · refine (msRead_ok s W hs (by rw [h3]) (msAt s) (insAt s 102 (cntAt s)) h4 h5).mono ?_
    rintro r w' ⟨⟨v, rfl, hO⟩, hb⟩
    obtain ⟨a, c, rfl, hI⟩ := hO.inL
    exact ⟨⟨a, c, rfl, hI⟩, hb⟩

/-- What is written is read. -/
theorem msRead_back (m : Ms) (l : List Ins) (c : List UInt8) (hok : okMs m l = true) (hx : byBp m.base ∧ byB m.br ∧ ∀ x ∈ l, byIns x) (hsz : (writeM m l ++ c).length ≤ 100000) (W : World) :
    Calls Tryd.prog 8 #[.string ⟨(writeM m l ++ c).toArray⟩] W (RdOk m l W) := by
  obtain ⟨h1, h2, h3, h4⟩ := ms_back m l c ⟨(writeM m l ++ c).toArray⟩ hok hx rfl
  refine (rdOk_of (s := ⟨(writeM m l ++ c).toArray⟩) (by simpa [ByteArray.size] using hsz) h1 W).mono ?_
  rintro r w' ⟨⟨a, c', rfl, hI⟩, hb⟩
  rw [insAt_len, h3, h2]
  refine ⟨⟨a, c', rfl, inIn_congr (by rw [insAt_len, h3]) (fun j q1 q2 => ?_) hI⟩, hb⟩
  rw [← h4 j q2, insAt_get]

theorem msRead_ways (s : ByteArray) (hs : s.size ≤ 100000) :
    (∃ e x, e ≠ 0 ∧ ∀ W, Calls Tryd.prog 8 #[.string s] W (ReadsAs (msC zMs (.slice none 0 0)) e (x : Nat) W)) ∨
    (∃ (M : Ms) (I : List Ins), okMs M I = true ∧ (byBp M.base ∧ byB M.br ∧ ∀ x ∈ I, byIns x) ∧ (writeM M I).length ≤ s.size ∧ ∀ W, Calls Tryd.prog 8 #[.string s] W (RdOk M I W)) := by
  rcases all_ways s with ⟨e, x, h1, h2, h3⟩ | ⟨h1, h2, h3, _⟩
  · exact Or.inl ⟨e, x, h2, fun W => msRead_bad s W hs e x h2 h3⟩
  · obtain ⟨g1, g2, g3, -⟩ := ms_right s h1 h2 h3
    exact Or.inr ⟨_, _, g1, g2, g3, fun W => rdOk_of hs h1 W⟩

theorem okMs_len {m : Ms} {l : List Ins} (h : okMs m l = true) : (writeM m l).length = 102 + 16 * l.length ∧ l.length ≤ 64 := by
  obtain ⟨_, _, hname, _, _, hdig, _, _, _, hlen, _⟩ := okMs_all h
  exact ⟨writeM_len m l hname hdig, hlen⟩

end Go.Proofs.YtdjljnpbnhampaaDoor

namespace Go.Proofs.YtdjljnpbnhampaaDoor
open Go.RowKit
attribute [local go_sem ↓] Go.wp_at_zero Go.wp_at_succ
set_option linter.unusedSimpArgs false
set_option linter.unusedVariables false
set_option maxRecDepth 100000

/-- Block c is a cursor over s, at p, from off on. -/
def Cur (w : World) (c : Nat) (s : ByteArray) (p off : Nat) : Prop := Blk w c 101 #[.string s, .int .i64 p, .int .i64 off]

/-- What is thrown. -/
def Thr (e pl : Int) : Value := .iface 154 (.agg #[.int .i64 e, .int .i64 pl])

def Thrown (e pl : Int) : List PanicEntry := [{ v := Thr e pl, recovered := false }]

theorem throw_any {w : World} {c p off : Nat} {s : ByteArray} (h : Cur w c s p off) (e : Int) (x : Int) (hx : 0 ≤ x) (hb : (off : Int) + x ≤ 281474976710656) :
    Calls Tryd.prog 34 #[.pointer (some ⟨c, 0, none⟩), .int .i64 e, .int .i64 x] w fun r w' => r = .panicked (Thrown e (off + x)) ∧ w = w' := by
  have c2 := h.cv 2 (.int .i64 off) rfl
  unfold Thrown Thr
  go_enter Tryd.func34, Tryd.ntmps34
  go_wp2
  exact ⟨rfl, rfl, rfl⟩

theorem Cur.set {w : World} {c p off : Nat} {s : ByteArray} (h : Cur w c s p off) (q : Int) : (w.setCell ⟨c, 1, none⟩ (.int .i64 q)).heap[c]? = some (.cells #[.string s, .int .i64 q, .int .i64 off] 101 (0, 0)) := by
  have h' : w.heap[c]? = some (.cells #[.string s, .int .i64 p, .int .i64 off] 101 (0, 0)) := h
  show (w.heap.modify c _)[c]? = _
  rw [Array.getElem?_modify, if_pos rfl, h']
  rfl

theorem Cur.drew {w : World} {c p off : Nat} {s : ByteArray} (h : Cur w c s p off) : Cur w.drew c s p off := h

theorem Cur.lt {w : World} {c p off : Nat} {s : ByteArray} (h : Cur w c s p off) : c < w.heap.size := Blk.lt h

theorem Cur.below {w w' : World} {c p off : Nat} {s : ByteArray} (h : Cur w c s p off) (hb : Below w.heap.size w w') : Cur w' c s p off := Blk.kept h hb

theorem grownC (w : World) (c i : Nat) (v : Value) : w.grownBy (w.setCell ⟨c, i, none⟩ v) (some c) :=
  ⟨rfl, rfl, rfl, by simp [World.setCell], fun k _ hne => Below.heap_setCell _ _ _ _ (by intro e; exact hne (by rw [e]))⟩

theorem cutT (s : ByteArray) (p n : Nat) : s.extract p (p + n) = ⟨((s.data.toList.drop p).take n).toArray⟩ := by
  apply ByteArray.ext
  apply Array.toList_inj.1
  rw [extract_list]
  simp

theorem eat_ok {w : World} {c p off : Nat} {s : ByteArray} (h : Cur w c s p off) (n : Nat) (hn : p + n ≤ s.size) (hb : off + s.size ≤ 281474976710656) :
    Calls Tryd.prog 35 #[.pointer (some ⟨c, 0, none⟩), .int .i64 n] w fun r w' => r = .returned (.string ⟨((s.data.toList.drop p).take n).toArray⟩) ∧ Cur w' c s (p + n) off ∧ w.grownBy w' (some c) := by
  have c0 := h.cv 0 (.string s) rfl
  have c1 := h.cv 1 (.int .i64 p) rfl
  have z1 := h.fz 1
  have hd : decide ((s.size : Int) - p < n) = false := decide_eq_false (by omega)
  have HC := Lib.hid (cutT s p n)
  have HS := Lib.hid (h.set ((p + n : Nat) : Int))
  have HG := Lib.hid (grownC w c 1 (.int .i64 ((p + n : Nat) : Int)))
  clear h
  rw [← HC.out]
  go_enter Tryd.func35, Tryd.ntmps35
  go_wp2
  go_region
  go_wp2
  go_region
  go_wp2
  go_ret
  exact ⟨rfl, HS.out, HG.out.os, HG.out.tape, HG.out.output, HG.out.size, HG.out.block⟩

theorem eat_bad {w : World} {c p off : Nat} {s : ByteArray} (h : Cur w c s p off) (n : Nat) (hn : ¬ p + n ≤ s.size) (hp : p ≤ s.size) (hn2 : n ≤ 1000000) (hb : off + s.size ≤ 281474976710656) :
    Calls Tryd.prog 35 #[.pointer (some ⟨c, 0, none⟩), .int .i64 n] w fun r w' => r = .panicked (Thrown 7 (off + p)) ∧ Below w.heap.size w w' := by
  have c0 := h.cv 0 (.string s) rfl
  have c1 := h.cv 1 (.int .i64 p) rfl
  have hd : decide ((s.size : Int) - p < n) = true := decide_eq_true (by omega)
  have hbl : Below w.heap.size w w := Below.refl _ _
  have HD : Cur w.drew c s p off := h
  clear h
  go_enter Tryd.func35, Tryd.ntmps35
  go_wp2
  go_region
  go_wp2_with fail
  refine (throw_any HD 7 p (by omega) (by omega)).mono ?_
  rintro e w2 ⟨rfl, rfl⟩
  go_wp2
  exact ⟨rfl, rfl, hbl.os, hbl.tape, hbl.output, hbl.size, hbl.block⟩

set_option maxHeartbeats 1000000 in
theorem cnum_ok {w : World} {c p off : Nat} {s : ByteArray} (h : Cur w c s p off) (n : Nat) (hn7 : n ≤ 7) (hn : p + n ≤ s.size) (hb : off + s.size ≤ 281474976710656) :
    Calls Tryd.prog 32 #[.pointer (some ⟨c, 0, none⟩), .int .i64 n] w fun r w' => r = .returned (.int .i64 (beN ((s.data.toList.drop p).take n))) ∧ Cur w' c s (p + n) off ∧ w.grownBy w' (some c) := by
  have hLn : ((s.data.toList.drop p).take n).length = n := by rw [List.length_take, List.length_drop]; simp; omega
  have HE : Hid (Calls Tryd.prog 35 #[.pointer (some ⟨c, 0, none⟩), .int .i64 n] w fun r w' => r = .returned (.string ⟨((s.data.toList.drop p).take n).toArray⟩) ∧ Cur w' c s (p + n) off ∧ w.grownBy w' (some c)) := eat_ok h n hn hb
  clear h hn hb
  generalize ((s.data.toList.drop p).take n) = t at *
  go_enter Tryd.func32, Tryd.ntmps32
  go_wp2_with fail
  refine HE.out.mono ?_
  rintro e w' ⟨rfl, hr, hg⟩
  have hcv := fun W => run_bytes_of_string (P := Tryd.prog) W 9 157 5 ⟨t.toArray⟩ Tryd.underlying9 Tryd.underlying157 Tryd.underlying5
  have hsz : (⟨t.toArray⟩ : ByteArray).size = n := by simp [ByteArray.size, hLn]
  go_wp2
  have hB := byteRow_new w' ⟨t.toArray⟩ (grownCap w' n 0 5) 5
  have hR : Cur ((w'.alloc (Obj.cells (bytesRow ⟨t.toArray⟩ (grownCap w' n 0 5)) 5 ((bytesRow ⟨t.toArray⟩ (grownCap w' n 0 5)).size, (bytesRow ⟨t.toArray⟩ (grownCap w' n 0 5)).size + 1))).drew) c s (p + n) off := Blk.alloc hr _
  have hG : w.grownBy ((w'.alloc (Obj.cells (bytesRow ⟨t.toArray⟩ (grownCap w' n 0 5)) 5 ((bytesRow ⟨t.toArray⟩ (grownCap w' n 0 5)).size, (bytesRow ⟨t.toArray⟩ (grownCap w' n 0 5)).size + 1))).drew) (some c) := by
    have k2 := grownBy_trans hg (World.grownBy_alloc w' (Obj.cells (bytesRow ⟨t.toArray⟩ (grownCap w' n 0 5)) 5 ((bytesRow ⟨t.toArray⟩ (grownCap w' n 0 5)).size, (bytesRow ⟨t.toArray⟩ (grownCap w' n 0 5)).size + 1)) (some c))
    exact ⟨k2.os, k2.tape, k2.output, k2.size, k2.block⟩
  have HL := Lib.hid hLn
  clear hLn hcv hsz hr hg
  generalize ((w'.alloc (Obj.cells (bytesRow ⟨t.toArray⟩ (grownCap w' n 0 5)) 5 ((bytesRow ⟨t.toArray⟩ (grownCap w' n 0 5)).size, (bytesRow ⟨t.toArray⟩ (grownCap w' n 0 5)).size + 1))).drew) = W1 at *
  have hB' : ByteRow W1 w'.heap.size t := hB
  clear hB
  go_loop [5, 13] (fun x i => ∃ k : Nat, k ≤ n ∧ i = .int .i64 k ∧ x = .int .i64 (beN (t.take k))) (fun _ i => n - (intOf i).toNat)
  case atStart => exact ⟨0, by omega, rfl, rfl⟩
  case round =>
    obtain ⟨k, hk, rfl, rfl⟩ := hrel
    by_cases hlt : k < n
    · have hcell := hB' k (t[k]'(by rw [HL.out]; exact hlt)) (List.getElem?_eq_getElem _)
      have hX : beN (t.take k) < 281474976710656 := by
        have h := beN_lt (t.take k)
        have hl : (t.take k).length = k := by rw [List.length_take, HL.out]; omega
        rw [hl] at h
        have h7 : 256 ^ k ≤ 256 ^ 6 := Nat.pow_le_pow_right (by omega) (by omega)
        omega
      have HN := Lib.hid (take_snoc t k (by rw [HL.out]; exact hlt))
      have hb8 := (t[k]'(by rw [HL.out]; exact hlt)).toNat_lt
      generalize (t[k]'(by rw [HL.out]; exact hlt)) = b at *
      have q1 : (0 : Int) ≤ (beN (t.take k) : Int) := by omega
      have q2 : (beN (t.take k) : Int) < 281474976710656 := by omega
      have q3 : (0 : Int) ≤ (b.toNat : Int) := by omega
      have q4 : (b.toNat : Int) < 256 := by omega
      clear hX hb8
      go_wp2
      go_round
      case rel => exact ⟨k + 1, by omega, by go_num, by rw [HN.out, beN_snoc]; simp⟩
      case measure => simp [intOf]; omega
    · obtain rfl : k = n := by omega
      have HK := Lib.hid (List.take_of_length_le (l := t) (i := k) (by rw [HL.out]; omega))
      go_wp2
      go_ret
      exact ⟨by rw [HK.out]; rfl, hR, hG⟩

/-- Missing bytes are missing for a number, too. -/
theorem cnum_bad {w : World} {c p off : Nat} {s : ByteArray} (h : Cur w c s p off) (n : Nat) (hn : ¬ p + n ≤ s.size) (hp : p ≤ s.size) (hn2 : n ≤ 1000000) (hb : off + s.size ≤ 281474976710656) :
    Calls Tryd.prog 32 #[.pointer (some ⟨c, 0, none⟩), .int .i64 n] w fun r w' => r = .panicked (Thrown 7 (off + p)) ∧ Below w.heap.size w w' := by
  have HE : Hid (Calls Tryd.prog 35 #[.pointer (some ⟨c, 0, none⟩), .int .i64 n] w fun r w' => r = .panicked (Thrown 7 (off + p)) ∧ Below w.heap.size w w') := eat_bad h n hn hp hn2 hb
  clear h hn hb
  go_enter Tryd.func32, Tryd.ntmps32
  go_wp2_with fail
  refine HE.out.mono ?_
  rintro e w' ⟨rfl, hb2⟩
  go_wp2
  exact ⟨rfl, rfl, hb2⟩

/-- Just these bytes. -/
theorem want_ok {w : World} {c p off : Nat} {s t : ByteArray} (h : Cur w c s p off) (hn : p + t.size ≤ s.size) (ht : (s.data.toList.drop p).take t.size = t.data.toList) (hb : off + s.size ≤ 281474976710656) :
    Calls Tryd.prog 30 #[.pointer (some ⟨c, 0, none⟩), .string t] w fun r w' => r = .returned (.tuple #[]) ∧ Cur w' c s (p + t.size) off ∧ w.grownBy w' (some c) := by
  have HE : Hid (Calls Tryd.prog 35 #[.pointer (some ⟨c, 0, none⟩), .int .i64 t.size] w fun r w' => r = .returned (.string t) ∧ Cur w' c s (p + t.size) off ∧ w.grownBy w' (some c)) := by
    have h2 := eat_ok h t.size hn hb
    rw [ht] at h2
    exact h2
  have c1 := h.cv 1 (.int .i64 p) rfl
  clear h hn hb ht
  go_enter Tryd.func30, Tryd.ntmps30
  go_wp2_with fail
  refine HE.out.mono ?_
  rintro e w' ⟨rfl, hr, hg⟩
  go_wp2
  go_end0
  exact ⟨rfl, hr, hg⟩

theorem want_bad {w : World} {c p off : Nat} {s t : ByteArray} (h : Cur w c s p off) (hn : ¬ p + t.size ≤ s.size) (hp : p ≤ s.size) (hn2 : t.size ≤ 1000000) (hb : off + s.size ≤ 281474976710656) :
    Calls Tryd.prog 30 #[.pointer (some ⟨c, 0, none⟩), .string t] w fun r w' => r = .panicked (Thrown 7 (off + p)) ∧ Below w.heap.size w w' := by
  have HE : Hid (Calls Tryd.prog 35 #[.pointer (some ⟨c, 0, none⟩), .int .i64 t.size] w fun r w' => r = .panicked (Thrown 7 (off + p)) ∧ Below w.heap.size w w') := eat_bad h t.size hn hp hn2 hb
  have c1 := h.cv 1 (.int .i64 p) rfl
  clear h hn hb
  go_enter Tryd.func30, Tryd.ntmps30
  go_wp2_with fail
  refine HE.out.mono ?_
  rintro e w' ⟨rfl, hb2⟩
  go_wp2
  exact ⟨rfl, rfl, hb2⟩

theorem want_form {w : World} {c p off : Nat} {s t : ByteArray} (h : Cur w c s p off) (hn : p + t.size ≤ s.size) (ht : (s.data.toList.drop p).take t.size ≠ t.data.toList) (hb : off + s.size ≤ 281474976710656) :
    Calls Tryd.prog 30 #[.pointer (some ⟨c, 0, none⟩), .string t] w fun r w' => r = .panicked (Thrown 3 (off + p)) ∧ w.grownBy w' (some c) := by
  obtain ⟨u, hu⟩ : ∃ u : ByteArray, u = ⟨((s.data.toList.drop p).take t.size).toArray⟩ := ⟨_, rfl⟩
  have HE : Hid (Calls Tryd.prog 35 #[.pointer (some ⟨c, 0, none⟩), .int .i64 t.size] w fun r w' => r = .returned (.string u) ∧ Cur w' c s (p + t.size) off ∧ w.grownBy w' (some c)) := by
    have h2 := eat_ok h t.size hn hb
    rw [← hu] at h2
    exact h2
  have hne : (u.toList == t.toList) = false := by
    apply beq_eq_false_iff_ne.2
    intro e
    rw [ByteArray.toList_eq, ByteArray.toList_eq, hu] at e
    exact ht e
  have c1 := h.cv 1 (.int .i64 p) rfl
  have hpb : off + p ≤ 281474976710656 := by omega
  clear h hn hb ht hu
  go_enter Tryd.func30, Tryd.ntmps30
  go_wp2_with fail
  refine HE.out.mono ?_
  rintro e w' ⟨rfl, hr, hg⟩
  go_wp2_with fail
  refine (throw_any hr 3 p (by omega) (by omega)).mono ?_
  rintro e w2 ⟨rfl, rfl⟩
  go_wp2
  exact ⟨rfl, rfl, hg⟩

theorem Tryd.addrZero : (Tryd.prog.info? 25).map (·.zero) = some (some (.agg (c6 z6))) := by kernel_rfl

theorem addr_ok {w : World} {c p off : Nat} {s : ByteArray} (h : Cur w c s p off) (hn : p + 6 ≤ s.size) (hb : off + s.size ≤ 281474976710656) :
    Calls Tryd.prog 71 #[.pointer (some ⟨c, 0, none⟩)] w fun r w' => r = .returned (.agg (c6 (byX ((s.data.toList.drop p).take 6)))) ∧ Cur w' c s (p + 6) off ∧ w.grownBy w' (some c) := by
  have HA := Blk.new w 25 (c6 z6)
  have hC : Cur (w.alloc (.cells (c6 z6) 25)) c s p off := Blk.alloc h _
  have hgA := World.grownBy_alloc w (.cells (c6 z6) 25) (some c)
  have hLn : ((s.data.toList.drop p).take 6).length = 6 := by rw [List.length_take, List.length_drop]; simp; omega
  have hcz : c < w.heap.size := h.lt
  have HE : Hid (∀ W, Cur W c s p off → Calls Tryd.prog 35 #[.pointer (some ⟨c, 0, none⟩), .int .i64 6] W fun r w' => r = .returned (.string ⟨((s.data.toList.drop p).take 6).toArray⟩) ∧ Cur w' c s (p + 6) off ∧ W.grownBy w' (some c)) := fun W h => eat_ok h 6 hn hb
  clear h hn hb
  generalize ((s.data.toList.drop p).take 6) = t at *
  have HL := Lib.hid hLn
  clear hLn
  go_enter Tryd.func71, Tryd.ntmps71
  go_upto_region 1 with (refine alloc_blk 25 (c6 z6) (by rfl) rfl Tryd.addrZero ?_)
  generalize w.alloc (.cells (c6 z6) 25) = w1 at *
  refine wp_region_noPanic ?_
  refine wp_region_held_drew (S := (fun _ => True)) (by kernel_rfl) ?_ (fun hHeld => ?_)
  · exact trivial
  refine wpAnyH_take (i := 0) (v := ?_) rfl (by kernel_rfl) (by kernel_rfl) (by kernel_rfl) (fun _ _ _ h => h) (Or.inl ⟨by rfl, ?_⟩) (by assumption) ?_
  rotate_left
  · (intro w hSw; (try dsimp only at hSw); go_simp; (try with_reducible rfl))
  (try simp only [Act.put, List.getElem_toArray, List.getElem_cons_zero, List.getElem_cons_succ, List.setIfInBounds_toArray, List.set_cons_zero, List.set_cons_succ])
  refine wpAnyH_take (i := 1) (v := ?_) rfl (by kernel_rfl) (by kernel_rfl) (by kernel_rfl) (fun _ _ _ h => h) (Or.inl ⟨by rfl, ?_⟩) (by assumption) ?_
  rotate_left
  · (intro w hSw; (try dsimp only at hSw); go_simp; (try with_reducible rfl))
  (try simp only [Act.put, List.getElem_toArray, List.getElem_cons_zero, List.getElem_cons_succ, List.setIfInBounds_toArray, List.set_cons_zero, List.set_cons_succ])
  refine wpAnyH_ready (rs := [2]) (by kernel_rfl) (by simp) ?_
  refine AllReadyH.cons rfl (fun K hK => ?_) AllReadyH.nil
  simp only [List.getElem_toArray, List.getElem_cons_zero, List.getElem_cons_succ]
  go_simp
  go_at_call 35; (with_reducible refine (HE.out _ hC.drew).mono ?_); rintro e w2 ⟨rfl, hC2, hg2⟩; have HA2 := HA.drew.grown hg2 (by simp; omega)
  refine hK.out _ _ ?_ (fun hHeld => ?_)
  · exact trivial
  clear hK K
  (try simp only [Act.put, List.getElem_toArray, List.getElem_cons_zero, List.getElem_cons_succ, List.setIfInBounds_toArray, List.set_cons_zero, List.set_cons_succ])
  refine wpAnyH_ready (rs := [3]) (by kernel_rfl) (by simp) ?_
  refine AllReadyH.cons rfl (fun K hK => ?_) AllReadyH.nil
  simp only [List.getElem_toArray, List.getElem_cons_zero, List.getElem_cons_succ]
  rw [if_pos (by rfl)]
  refine wp_copy_text ⟨t.toArray⟩ (c6 (byX t)) 5 rfl rfl rfl HA2 Tryd.underlying157 (by kernel_rfl) (by simp [ByteArray.size, HL.out]) (by simp [ByteArray.size, HL.out, c6]) ?_ (fun w3 HA3 b3 g3 => ?_)
  · rw [byX_c6 t HL.out]; simp [ByteArray.size, HL.out, c6]
  have hC3 : Cur w3 c s (p + 6) off := Blk.grown hC2 g3 (by simp; omega)
  refine hK.out _ _ ?_ (fun hHeld => ?_)
  · trivial
  clear hK K
  (try simp only [Act.put, List.getElem_toArray, List.getElem_cons_zero, List.getElem_cons_succ, List.setIfInBounds_toArray, List.set_cons_zero, List.set_cons_succ])
  refine wpAnyH_done (by kernel_rfl) ?_ _
  refine NoPanic.normal ?_
  go_wp2_with (first | (refine load_blk (k := 0) 25 (c6 (byX t)) (by rfl) rfl rfl HA3 (by kernel_rfl) (by kernel_rfl) rfl ?_) | (refine store_blk (k := 0) 25 (.agg (c6 (byX t))) (c6 (byX t)) (by rfl) rfl rfl rfl HA3 (by kernel_rfl) (by exact Nat.le_refl 6) rfl rfl (fun w4 HA4 b4 g4 => ?_)))
  have hC4 : Cur w4 c s (p + 6) off := Blk.grown hC3 g4 (by simp; omega)
  have hg1 : w.grownBy w2 (some c) := grownBy_trans hgA ⟨hg2.os, hg2.tape, hg2.output, hg2.size, hg2.block⟩
  have hs2 : w.heap.size < w2.heap.size := HA2.lt
  refine bodyPost_ret (results_blk rfl rfl HA4 (by kernel_rfl) (by kernel_rfl)) rfl ⟨rfl, hC4, g4.os.trans (g3.os.trans hg1.os), g4.tape.trans (g3.tape.trans hg1.tape), g4.output.trans (g3.output.trans hg1.output), Nat.le_trans hg1.size (Nat.le_trans g3.size g4.size), fun k hk hne => ?_⟩
  have k1 := hg1.block k hk hne
  have k2 := g3.block k (by omega) (by simp; omega)
  have k3 := g4.block k (Nat.lt_of_lt_of_le (by omega : k < w2.heap.size) g3.size) (by simp; omega)
  exact k3.trans (k2.trans k1)

theorem addr_bad {w : World} {c p off : Nat} {s : ByteArray} (h : Cur w c s p off) (hn : ¬ p + 6 ≤ s.size) (hp : p ≤ s.size) (hb : off + s.size ≤ 281474976710656) :
    Calls Tryd.prog 71 #[.pointer (some ⟨c, 0, none⟩)] w fun r w' => r = .panicked (Thrown 7 (off + p)) ∧ Below w.heap.size w w' := by
  have hC : Cur (w.alloc (.cells (c6 z6) 25)) c s p off := Blk.alloc h _
  have hb0 : Below w.heap.size w (w.alloc (.cells (c6 z6) 25)) := (Below.refl _ _).alloc (Nat.le_refl _) _
  have HE : Hid (∀ W, Cur W c s p off → Calls Tryd.prog 35 #[.pointer (some ⟨c, 0, none⟩), .int .i64 6] W fun r w' => r = .panicked (Thrown 7 (off + p)) ∧ Below W.heap.size W w') := fun W h => eat_bad h 6 hn hp (by decide) hb
  clear h hn hb
  go_enter Tryd.func71, Tryd.ntmps71
  go_upto_region 1 with (refine alloc_blk 25 (c6 z6) (by rfl) rfl Tryd.addrZero ?_)
  generalize w.alloc (.cells (c6 z6) 25) = w1 at *
  refine wp_region_held_drew (S := (fun _ => True)) (by kernel_rfl) trivial (fun hHeld => ?_)
  refine wpAnyH_ready (rs := [0, 1]) (by kernel_rfl) (by simp) ?_
  refine (AllReadyH.cons rfl (fun K hK => ?_) (AllReadyH.cons rfl (fun K hK => ?_) AllReadyH.nil))
  · simp only [List.getElem_toArray, List.getElem_cons_zero, List.getElem_cons_succ]
    go_simp
    refine hK.out _ _ ?_ (fun hHeld => ?_)
    · trivial
    clear hK K
    (try simp only [Act.put, List.getElem_toArray, List.getElem_cons_zero, List.getElem_cons_succ, List.setIfInBounds_toArray, List.set_cons_zero, List.set_cons_succ])
    refine wpAnyH_ready (rs := [1]) (by kernel_rfl) (by simp) ?_
    refine (AllReadyH.cons rfl (fun K hK => ?_) AllReadyH.nil)
    simp only [List.getElem_toArray, List.getElem_cons_zero, List.getElem_cons_succ]
    go_simp
    refine hK.out _ _ ?_ (fun hHeld => ?_)
    · trivial
    clear hK K
    (try simp only [Act.put, List.getElem_toArray, List.getElem_cons_zero, List.getElem_cons_succ, List.setIfInBounds_toArray, List.set_cons_zero, List.set_cons_succ])
    refine wpAnyH_ready (rs := [2]) (by kernel_rfl) (by simp) ?_
    refine (AllReadyH.cons rfl (fun K hK => ?_) AllReadyH.nil)
    simp only [List.getElem_toArray, List.getElem_cons_zero, List.getElem_cons_succ]
    go_simp
    go_at_call 35; (with_reducible refine (HE.out _ hC.drew).mono ?_); rintro e w2 ⟨rfl, b2⟩
    go_wp2
    exact ⟨rfl, rfl, hb0.drew.trans (b2.mono hb0.size)⟩
  · simp only [List.getElem_toArray, List.getElem_cons_zero, List.getElem_cons_succ]
    go_simp
    refine hK.out _ _ ?_ (fun hHeld => ?_)
    · trivial
    clear hK K
    (try simp only [Act.put, List.getElem_toArray, List.getElem_cons_zero, List.getElem_cons_succ, List.setIfInBounds_toArray, List.set_cons_zero, List.set_cons_succ])
    refine wpAnyH_ready (rs := [0, 2]) (by kernel_rfl) (by simp) ?_
    refine (AllReadyH.cons rfl (fun K hK => ?_) (AllReadyH.cons rfl (fun K hK => ?_) AllReadyH.nil))
    · simp only [List.getElem_toArray, List.getElem_cons_zero, List.getElem_cons_succ]
      go_simp
      refine hK.out _ _ ?_ (fun hHeld => ?_)
      · trivial
      clear hK K
      (try simp only [Act.put, List.getElem_toArray, List.getElem_cons_zero, List.getElem_cons_succ, List.setIfInBounds_toArray, List.set_cons_zero, List.set_cons_succ])
      refine wpAnyH_ready (rs := [2]) (by kernel_rfl) (by simp) ?_
      refine (AllReadyH.cons rfl (fun K hK => ?_) AllReadyH.nil)
      simp only [List.getElem_toArray, List.getElem_cons_zero, List.getElem_cons_succ]
      go_simp
      go_at_call 35; (with_reducible refine (HE.out _ hC.drew).mono ?_); rintro e w2 ⟨rfl, b2⟩
      go_wp2
      exact ⟨rfl, rfl, hb0.drew.trans (b2.mono hb0.size)⟩
    · simp only [List.getElem_toArray, List.getElem_cons_zero, List.getElem_cons_succ]
      go_simp
      go_at_call 35; (with_reducible refine (HE.out _ hC.drew).mono ?_); rintro e w2 ⟨rfl, b2⟩
      go_wp2
      exact ⟨rfl, rfl, hb0.drew.trans (b2.mono hb0.size)⟩

def curAt (w : World) (c : Nat) : Nat := match w.cell? ⟨c, 1, none⟩ with | some (.int _ n) => n.toNat | _ => 0

theorem Cur.at {w : World} {c p off : Nat} {s : ByteArray} (h : Cur w c s p off) : curAt w c = p := by
  unfold curAt
  rw [h.cv 1 (.int .i64 p) rfl]
  simp


end Go.Proofs.YtdjljnpbnhampaaDoor

namespace Go.Proofs.YtdjljnpbnhampaaDoor
open Go.RowKit
attribute [local go_sem ↓] Go.wp_at_zero Go.wp_at_succ
set_option linter.unusedSimpArgs false
set_option linter.unusedVariables false
set_option maxRecDepth 100000

/-- A Fault's cells. -/
def ftC (e pl : Int) : Array Value := #[.int .i64 e, .int .i64 pl]

theorem Tryd.ftZero : (Tryd.prog.info? 37).map (·.zero) = some (some (.agg (ftC 0 0))) := by kernel_rfl

theorem good_any (w : World) : Calls Tryd.prog 26 #[] w fun e w' => e = .returned (.agg (ftC 0 (-1))) ∧ Below w.heap.size w w' := by
  have HZ := Blk.new w 37 (ftC 0 0)
  have hb0 : Below w.heap.size w (w.alloc (.cells (ftC 0 0) 37)) := (Below.refl _ _).alloc (Nat.le_refl _) _
  go_enter Tryd.func26, Tryd.ntmps26
  go_wp2_with (first | (refine alloc_blk 37 (ftC 0 0) (by rfl) rfl Tryd.ftZero ?_) | (refine build_blk (t := 37) (ftC 0 (-1)) (by rfl) rfl (by kernel_rfl) ?_) | (refine store_blk (k := 0) 37 (.agg (ftC 0 (-1))) (ftC 0 (-1)) (by rfl) rfl rfl rfl HZ (by kernel_rfl) (by exact Nat.le_refl 2) rfl rfl (fun w2 H2 b2 g2 => ?_)))
  exact bodyPost_ret (results_blk rfl rfl H2 (by kernel_rfl) (by kernel_rfl)) rfl ⟨rfl, hb0.trans b2⟩

theorem is_any (e pl : Int) (w : World) : Calls Tryd.prog 28 #[.agg (ftC e pl)] w fun r w' => r = .returned (.bool (e == 0)) ∧ Below w.heap.size w w' := by
  have hb0 : Below w.heap.size w (w.alloc (.cells (ftC e pl) 37)) := (Below.refl _ _).alloc (Nat.le_refl _) _
  unfold ftC at *
  go_enter Tryd.func28, Tryd.ntmps28
  go_wp2
  go_ret
  exact ⟨rfl, hb0⟩

theorem Tryd.isThrown (v : Value) (w : World) : (Instr.typeAssert (.iface 154 v) 20 154 true).run Tryd.prog w = .ok (.tuple #[v, .bool true]) w := by kernel_rfl

theorem Tryd.thZero : (Tryd.prog.info? 154).map (·.zero) = some (some (.agg (ftC 0 0))) := by kernel_rfl

/-- The rest of a deferred call, where nothing more is recovered: its post behind a name. -/
theorem wpS_rest {P : Program} {c : Code} {Q : Exit → Act → List Frame → World → Prop} {a : Act} {cs : List Frame} {w : World} (T : Array Value) (hT : a = { tmps := T, defers := [] }) (h : ∀ Q' : Exit → Act → World → Prop, Hid (∀ e a' w', Q e a' cs w' → Q' e a' w') → c.wp P Q' { tmps := T, defers := [] } w) : c.wpS P Q a cs w := by
  subst hT
  exact wpS_of_wp (h _ (Lib.hid fun _ _ _ x => x))

/-- caught, where nothing was thrown. -/
theorem caught_idle (p : Addr) (w : World) :
    CallsD Tryd.prog 29 #[.pointer (some p)] .returning w fun e u' w' => e = .returned (.tuple #[]) ∧ u' = .returning ∧ w' = w := by
  have hnn : ∀ w : World, (binOp BinOp.neq 20 .nilIface .nilIface).run Tryd.prog w = .ok (.bool false) w := fun _ => by kernel_rfl
  refine callsD_of_wpS Tryd.func29 rfl fun c₀ cs hu => ?_
  apply wpS_seq
  apply wpS_region
  simp [wpOpsS, go_sem, recoverD, hu, Tryd.ntmps29, Exit.thenS]
  refine wpS_rest #[.pointer (some p), undef, .nilIface, undef, undef, .nilIface, undef, undef, undef, undef, undef, undef, undef, undef, undef, undef, undef, undef, undef, undef] (by kernel_rfl) fun Q' hQ' => ?_
  go_wp2
  refine hQ'.out _ _ _ ?_
  cases c₀
  simp_all [bodyPostS, results, Tryd.results29]

/-- caught, where something was thrown: it is laid. -/
theorem caught_thrown (B : Nat) (e0 pl0 e pl : Int) (older : List PanicEntry) (w : World) (hB : Blk w B 37 (ftC e0 pl0)) :
    CallsD Tryd.prog 29 #[.pointer (some ⟨B, 0, none⟩)] (.panicking ({ v := Thr e pl, recovered := false } :: older)) w fun r u' w' => r = .returned (.tuple #[]) ∧ u' = .panicking ({ v := Thr e pl, recovered := true } :: older) ∧ Blk w' B 37 (ftC e pl) ∧ w.grownBy w' (some B) := by
  have hta := Tryd.isThrown
  have hnn : ∀ w : World, (binOp BinOp.neq 20 (.iface 154 (.agg #[.int .i64 e, .int .i64 pl])) .nilIface).run Tryd.prog w = .ok (.bool true) w := fun _ => by kernel_rfl
  have HB2 := hB.alloc (.cells (ftC 0 0) 154)
  have HT := Blk.new w 154 (ftC 0 0)
  have hg0 := World.grownBy_alloc w (.cells (ftC 0 0) 154) (some B)
  have hlt := hB.lt
  refine callsD_of_wpS Tryd.func29 rfl fun c₀ cs hu => ?_
  unfold Thr at *
  apply wpS_seq
  apply wpS_region
  simp [wpOpsS, go_sem, recoverD, hu, Tryd.ntmps29, Exit.thenS]
  refine wpS_rest #[.pointer (some ⟨B, 0, none⟩), undef, .iface 154 (.agg #[.int .i64 e, .int .i64 pl]), undef, undef, .iface 154 (.agg #[.int .i64 e, .int .i64 pl]), undef, undef, undef, undef, undef, undef, undef, undef, undef, undef, undef, undef, undef, undef] (by kernel_rfl) fun Q' hQ' => ?_
  go_upto_region 5 with (first | (refine alloc_blk 154 (ftC 0 0) (by rfl) rfl Tryd.thZero ?_) | (refine store_blk (k := 0) 154 (.agg (ftC e pl)) (ftC e pl) (by rfl) rfl rfl rfl HT (by kernel_rfl) (by exact Nat.le_refl 2) rfl rfl (fun w2 HT2 b2 g2 => ?_)))
  have HB3 := HB2.grown g2 (by simp; omega)
  go_wp2_with (first | (refine load_blk (k := 0) 37 (ftC e pl) (by rfl) rfl rfl HT2 (by kernel_rfl) (by kernel_rfl) rfl ?_) | (refine store_blk (k := 0) 37 (.agg (ftC e pl)) (ftC e pl) (by rfl) rfl rfl rfl HB3 (by kernel_rfl) (by exact Nat.le_refl 2) rfl rfl (fun w3 HB4 b3 g3 => ?_)))
  have hG : w.grownBy w3 (some B) := by
    have h1 : w.grownBy w2 (some B) := ⟨g2.os, g2.tape, g2.output, Nat.le_trans hg0.size g2.size, fun k hk hne => (g2.block k (by simp; omega) (by simp; omega)).trans (hg0.block k hk hne)⟩
    exact grownBy_trans h1 g3
  refine hQ'.out _ _ _ ?_
  cases c₀
  simp_all [bodyPostS, results, Tryd.results29]

end Go.Proofs.YtdjljnpbnhampaaDoor

namespace Go.Proofs.YtdjljnpbnhampaaDoor
open Go.RowKit
attribute [local go_sem ↓] Go.wp_at_zero Go.wp_at_succ
set_option linter.unusedSimpArgs false
set_option linter.unusedVariables false
set_option maxRecDepth 100000

theorem grown_any {w w' : World} {c : Option Nat} (h : Below w.heap.size w w') : w.grownBy w' c := ⟨h.os, h.tape, h.output, h.size, fun k hk _ => h.block k hk⟩

theorem cbridge_bad1 {w : World} {c p off : Nat} {s : ByteArray} (h : Cur w c s p off) (hn : ¬ p + 2 ≤ s.size) (hp : p ≤ s.size) (hb : off + s.size ≤ 281474976710656) :
    Calls Tryd.prog 36 #[.pointer (some ⟨c, 0, none⟩)] w fun r w' => r = .panicked (Thrown 7 (off + p)) ∧ w.grownBy w' (some c) := by
  have HE := Lib.hid (fun W (h : Cur W c s p off) => cnum_bad h 2 hn hp (by decide) hb)
  have R1 := Blk.new w 27 (brC zBr)
  have H1 : Cur (w.alloc (.cells (brC zBr) 27)) c s p off := Blk.alloc h _
  have G1 : w.grownBy (w.alloc (.cells (brC zBr) 27)) (some c) := World.grownBy_alloc w _ _
  have hc := h.lt
  clear h
  go_enter Tryd.func36, Tryd.ntmps36
  go_upto_region 1 with (refine alloc_blk 27 (brC zBr) (by rfl) rfl Tryd.brZero ?_)
  generalize w.alloc (.cells (brC zBr) 27) = w1 at *
  go_wp2_with fail
  refine (HE.out _ H1).mono ?_
  rintro e w2 ⟨rfl, b2⟩
  go_wp2
  exact ⟨rfl, rfl, grown_belowT G1 b2⟩

theorem cbridge_bad2 {w : World} {c p off : Nat} {s : ByteArray} (h : Cur w c s p off) (hn : p + 2 ≤ s.size) (hn2 : ¬ p + 8 ≤ s.size) (hb : off + s.size ≤ 281474976710656) :
    Calls Tryd.prog 36 #[.pointer (some ⟨c, 0, none⟩)] w fun r w' => r = .panicked (Thrown 7 (off + (p + 2 : Nat))) ∧ w.grownBy w' (some c) := by
  have HE := Lib.hid (fun W (h : Cur W c s p off) => cnum_ok h 2 (by decide) hn hb)
  have HD := Lib.hid (fun W (h : Cur W c s (p + 2) off) => addr_bad h (by omega) hn hb)
  have hN := beAt_lt s p
  have e1 : beN ((s.data.toList.drop p).take 2) = beAt s p := rfl
  rw [e1] at HE
  clear e1
  generalize beAt s p = n at *
  have q4 : IntKind.i64.wrap ((n : Int) / 4096 * 4096) = (n : Int) / 4096 * 4096 := by rw [IntKind.wrap_i64]; omega
  have R1 := Blk.new w 27 (brC zBr)
  have H1 : Cur (w.alloc (.cells (brC zBr) 27)) c s p off := Blk.alloc h _
  have G1 : w.grownBy (w.alloc (.cells (brC zBr) 27)) (some c) := World.grownBy_alloc w _ _
  have hc := h.lt
  clear h
  go_enter Tryd.func36, Tryd.ntmps36
  go_upto_region 1 with (refine alloc_blk 27 (brC zBr) (by rfl) rfl Tryd.brZero ?_)
  generalize w.alloc (.cells (brC zBr) 27) = w1 at *
  go_wp2_with fail
  refine (HE.out _ H1).mono ?_
  rintro e w2 ⟨rfl, H2, g2⟩
  have G2 := grown_same G1 g2
  go_wp2_with fail
  refine (HD.out _ H2).mono ?_
  rintro e w3 ⟨rfl, b3⟩
  go_wp2
  exact ⟨rfl, rfl, grown_belowT G2 b3⟩

theorem cbridge_ok {w : World} {c p off : Nat} {s : ByteArray} (h : Cur w c s p off) (hn : p + 8 ≤ s.size) (hb : off + s.size ≤ 281474976710656) :
    Calls Tryd.prog 36 #[.pointer (some ⟨c, 0, none⟩)] w fun r w' => r = .returned (.agg (brC (brAt s p))) ∧ Cur w' c s (p + 8) off ∧ w.grownBy w' (some c) := by
  have HE := Lib.hid (fun W (h : Cur W c s p off) => cnum_ok h 2 (by decide) (by omega) hb)
  have HD := Lib.hid (fun W (h : Cur W c s (p + 2) off) => addr_ok h (by omega) hb)
  have hN := beAt_lt s p
  have e1 : beN ((s.data.toList.drop p).take 2) = beAt s p := rfl
  rw [e1] at HE
  clear e1
  unfold brAt
  generalize beAt s p = n at *
  generalize byX ((s.data.toList.drop (p + 2)).take 6) = x at *
  have q4 : IntKind.i64.wrap ((n : Int) / 4096 * 4096) = (n : Int) / 4096 * 4096 := by rw [IntKind.wrap_i64]; omega
  have R1 := Blk.new w 27 (brC zBr)
  have H1 : Cur (w.alloc (.cells (brC zBr) 27)) c s p off := Blk.alloc h _
  have G1 : w.grownBy (w.alloc (.cells (brC zBr) 27)) (some c) := World.grownBy_alloc w _ _
  have hc := h.lt
  clear h
  go_enter Tryd.func36, Tryd.ntmps36
  go_upto_region 1 with (refine alloc_blk 27 (brC zBr) (by rfl) rfl Tryd.brZero ?_)
  generalize w.alloc (.cells (brC zBr) 27) = w1 at *
  go_wp2_with fail
  refine (HE.out _ H1).mono ?_
  rintro e w2 ⟨rfl, H2, g2⟩
  have G2 := grown_same G1 g2
  have R2 := R1.grown g2 (by simp; omega)
  go_wp2_with fail
  refine (HD.out _ H2).mono ?_
  rintro e w3 ⟨rfl, H3, g3⟩
  have G3 := grown_same G2 g3
  have R3 := R2.grown g3 (by simp; omega)
  go_wp2_with (first
    | (refine build_blk (t := 27) (brC ⟨(n : Int) / 4096 * 4096, (n : Int) % 4096, x⟩) (by rfl) rfl (by kernel_rfl) ?_)
    | (refine store_blk (k := 0) 27 (.agg (brC ⟨(n : Int) / 4096 * 4096, (n : Int) % 4096, x⟩)) (brC ⟨(n : Int) / 4096 * 4096, (n : Int) % 4096, x⟩) (by rfl) rfl rfl rfl R3 (by kernel_rfl) (show (8 : Nat) ≤ 8 from Nat.le_refl 8) (by rfl) (st_whole _ _ rfl) ?_; intro w7 R7 b7 g7; have H7 : Cur w7 c s (p + 8) off := Blk.grown H3 g7 (by simp; omega); have G7 := grown_own G3 g7 (Nat.le_refl _)))
  exact bodyPost_ret (results_blk rfl rfl R7 (by kernel_rfl) (by kernel_rfl)) rfl ⟨rfl, H7, G7⟩

theorem cport_bad1 {w : World} {c p off : Nat} {s : ByteArray} (h : Cur w c s p off) (hn : ¬ p + 2 ≤ s.size) (hp : p ≤ s.size) (hb : off + s.size ≤ 281474976710656) :
    Calls Tryd.prog 70 #[.pointer (some ⟨c, 0, none⟩)] w fun r w' => r = .panicked (Thrown 7 (off + p)) ∧ w.grownBy w' (some c) := by
  have HE := Lib.hid (fun W (h : Cur W c s p off) => cnum_bad h 2 hn hp (by decide) hb)
  have R1 := Blk.new w 29 (ptC 0 0)
  have H1 : Cur (w.alloc (.cells (ptC 0 0) 29)) c s p off := Blk.alloc h _
  have G1 : w.grownBy (w.alloc (.cells (ptC 0 0) 29)) (some c) := World.grownBy_alloc w _ _
  have hc := h.lt
  clear h
  go_enter Tryd.func70, Tryd.ntmps70
  go_upto_region 1 with (refine alloc_blk 29 (ptC 0 0) (by rfl) rfl Tryd.ptZero ?_)
  generalize w.alloc (.cells (ptC 0 0) 29) = w1 at *
  have c1 := Blk.cv H1 1 (.int .i64 p) rfl
  go_wp2_with fail
  refine (HE.out _ H1).mono ?_
  rintro e w2 ⟨rfl, b2⟩
  go_wp2
  exact ⟨rfl, rfl, grown_belowT G1 b2⟩

theorem cport_bad2 {w : World} {c p off : Nat} {s : ByteArray} (h : Cur w c s p off) (hn : p + 2 ≤ s.size) (hz : beAt s p % 4096 = 0) (hb : off + s.size ≤ 281474976710656) :
    Calls Tryd.prog 70 #[.pointer (some ⟨c, 0, none⟩)] w fun r w' => r = .panicked (Thrown 2 (off + p)) ∧ w.grownBy w' (some c) := by
  have HE := Lib.hid (fun W (h : Cur W c s p off) => cnum_ok h 2 (by decide) hn hb)
  have HT := Lib.hid (fun W (h : Cur W c s (p + 2) off) => throw_any h 2 p (by omega) (by omega))
  have hN := beAt_lt s p
  have e1 : beN ((s.data.toList.drop p).take 2) = beAt s p := rfl
  rw [e1] at HE
  clear e1
  generalize beAt s p = n at *
  have q0 : ((n : Int) % 4096 == 0) = true := by rw [beq_iff_eq]; omega
  have R1 := Blk.new w 29 (ptC 0 0)
  have H1 : Cur (w.alloc (.cells (ptC 0 0) 29)) c s p off := Blk.alloc h _
  have G1 : w.grownBy (w.alloc (.cells (ptC 0 0) 29)) (some c) := World.grownBy_alloc w _ _
  have hc := h.lt
  clear h
  go_enter Tryd.func70, Tryd.ntmps70
  go_upto_region 1 with (refine alloc_blk 29 (ptC 0 0) (by rfl) rfl Tryd.ptZero ?_)
  generalize w.alloc (.cells (ptC 0 0) 29) = w1 at *
  have c1 := Blk.cv H1 1 (.int .i64 p) rfl
  go_wp2_with fail
  refine (HE.out _ H1).mono ?_
  rintro e w2 ⟨rfl, H2, g2⟩
  have G2 := grown_same G1 g2
  go_wp2_with fail
  refine (HT.out _ H2).mono ?_
  rintro e w3 ⟨rfl, rfl⟩
  go_wp2
  exact ⟨rfl, rfl, G2⟩

theorem cport_ok {w : World} {c p off : Nat} {s : ByteArray} (h : Cur w c s p off) (hn : p + 2 ≤ s.size) (hz : ¬ beAt s p % 4096 = 0) (hb : off + s.size ≤ 281474976710656) :
    Calls Tryd.prog 70 #[.pointer (some ⟨c, 0, none⟩)] w fun r w' => r = .returned (.agg (ptAt s p)) ∧ Cur w' c s (p + 2) off ∧ w.grownBy w' (some c) := by
  have HE := Lib.hid (fun W (h : Cur W c s p off) => cnum_ok h 2 (by decide) hn hb)
  have hN := beAt_lt s p
  have e1 : beN ((s.data.toList.drop p).take 2) = beAt s p := rfl
  rw [e1] at HE
  clear e1
  unfold ptAt
  generalize beAt s p = n at *
  have q0 : ((n : Int) % 4096 == 0) = false := by rw [beq_eq_false_iff_ne]; omega
  have q4 : IntKind.i64.wrap ((n : Int) / 4096 * 16) = (n : Int) / 4096 * 16 := by rw [IntKind.wrap_i64]; omega
  have R1 := Blk.new w 29 (ptC 0 0)
  have H1 : Cur (w.alloc (.cells (ptC 0 0) 29)) c s p off := Blk.alloc h _
  have G1 : w.grownBy (w.alloc (.cells (ptC 0 0) 29)) (some c) := World.grownBy_alloc w _ _
  have hc := h.lt
  clear h
  go_enter Tryd.func70, Tryd.ntmps70
  go_upto_region 1 with (refine alloc_blk 29 (ptC 0 0) (by rfl) rfl Tryd.ptZero ?_)
  generalize w.alloc (.cells (ptC 0 0) 29) = w1 at *
  have c1 := Blk.cv H1 1 (.int .i64 p) rfl
  go_wp2_with fail
  refine (HE.out _ H1).mono ?_
  rintro e w2 ⟨rfl, H2, g2⟩
  have G2 := grown_same G1 g2
  have R2 := R1.grown g2 (by simp; omega)
  go_wp2_with (first
    | (refine build_blk (t := 29) (ptC ((n : Int) / 4096 * 16) ((n : Int) % 4096)) (by rfl) rfl (by kernel_rfl) ?_)
    | (refine store_blk (k := 0) 29 (.agg (ptC ((n : Int) / 4096 * 16) ((n : Int) % 4096))) (ptC ((n : Int) / 4096 * 16) ((n : Int) % 4096)) (by rfl) rfl rfl rfl R2 (by kernel_rfl) (show (2 : Nat) ≤ 2 from Nat.le_refl 2) (by rfl) (st_whole _ _ rfl) ?_; intro w7 R7 b7 g7; have H7 : Cur w7 c s (p + 2) off := Blk.grown H2 g7 (by simp; omega); have G7 := grown_own G2 g7 (Nat.le_refl _)))
  exact bodyPost_ret (results_blk rfl rfl R7 (by kernel_rfl) (by kernel_rfl)) rfl ⟨rfl, H7, G7⟩

end Go.Proofs.YtdjljnpbnhampaaDoor

namespace Go.Proofs.YtdjljnpbnhampaaDoor
open Go.RowKit
attribute [local go_sem ↓] Go.wp_at_zero Go.wp_at_succ
set_option linter.unusedSimpArgs false
set_option linter.unusedVariables false
set_option maxRecDepth 100000

/-- What comes of it. -/
def CBody (s : ByteArray) (c p off : Nat) (k : Int) (w : World) (r : Ending) (w' : World) : Prop :=
  (∃ e x, bdE s.size p (pzAt s (p + 21)) = some (e, x) ∧ r = .panicked (Thrown e (off + x)) ∧ w.grownBy w' (some c)) ∨
  (bdE s.size p (pzAt s (p + 21)) = none ∧ r = .returned (.agg (bpC (bpAt s p k))) ∧ Cur w' c s (p + 31) off ∧ w.grownBy w' (some c))

set_option maxHeartbeats 6400000 in
theorem cbody_any {w : World} {c p off : Nat} {s : ByteArray} (k : Int) (h : Cur w c s p off) (hp : p ≤ s.size) (hb : off + s.size ≤ 281474976710656) :
    Calls Tryd.prog 31 #[.pointer (some ⟨c, 0, none⟩), .int .i64 k] w (CBody s c p off k w) := by
  have hN1 := numAt_one s p
  have HQ : Hid (∀ r w', CBody s c p off k w r w' = ((∃ e x, bdE s.size p (pzAt s (p + 21)) = some (e, x) ∧ r = .panicked (Thrown e (off + x)) ∧ w.grownBy w' (some c)) ∨
    (bdE s.size p (pzAt s (p + 21)) = none ∧ r = .returned (.agg (bpC (bpAt s p k))) ∧ Cur w' c s (p + 31) off ∧ w.grownBy w' (some c)))) := fun _ _ => rfl
  have hc := h.lt
  have HC0 : Cur (w.alloc (.cells (bpC zBp) 31)) c s p off := Blk.alloc h _
  have G0 : w.grownBy (w.alloc (.cells (bpC zBp) 31)) (some c) := World.grownBy_alloc w _ _
  clear h
  go_enter Tryd.func31, Tryd.ntmps31
  go_wp2_with (first | (refine alloc_blk 31 (bpC zBp) (by rfl) rfl Tryd.bpZero ?_) | (refine store_blk (k := 0) 3 (.int .i64 k) (bpC ⟨k, zFl, ⟨0, 0, z6b⟩, 0, ⟨0, 0, z6b⟩, 0, 0, 0, 0, 0, 0⟩) (by rfl) rfl rfl rfl (Blk.new w _ _) (by kernel_rfl) (show (0 + 1 : Nat) ≤ 31 by decide) (by rfl) rfl ?_; intro w1 HR1 b1 g1; have HC1 : Cur w1 c s p off := Blk.grown HC0 g1 (by simp; omega); have G1 := grown_own G0 g1 (Nat.le_refl _)))
  clear HC0 G0 b1 g1
  by_cases q0 : s.size < p + 1
  · refine (cnum_bad HC1 1 (by omega) (by omega) (by decide) hb).mono ?_
    rintro e w9 ⟨rfl, g9⟩
    go_wp2
    exact ⟨rfl, Or.inl ⟨7, p, by unfold bdE; simp only [if_pos q0], rfl, grown_belowT G1 g9⟩⟩
  have q0n : p + 1 ≤ s.size := by omega
  refine (cnum_ok HC1 1 (by decide) (by omega) hb).mono ?_
  rintro e w2 ⟨rfl, HC2, g2⟩
  have HR2 := HR1.grown g2 (by simp; omega)
  have G2 := grown_same G1 g2
  clear HR1 HC1 G1 g2
  go_wp2_with fail
  refine (flagsOf_any (numAt s p 1) hN1 _).mono ?_
  rintro e w3 ⟨rfl, k3⟩
  have HR3 := HR2.kept k3
  have HC3 : Cur w3 c s (p + 1) off := HC2.below k3
  have G3 := grown_belowT G2 k3
  clear HR2 HC2 G2 k3
  go_wp2_with (refine store_blk (k := 1) 23 (.agg (flC (ofF (numAt s p 1)))) (bpC ⟨k, (ofF (numAt s p 1)), ⟨0, 0, z6b⟩, 0, ⟨0, 0, z6b⟩, 0, 0, 0, 0, 0, 0⟩) (by rfl) rfl rfl rfl HR3 (by kernel_rfl) (show (1 + 7 : Nat) ≤ 31 by decide) (by rfl) rfl ?_; intro w4 HR4 b4 g4; have HC4 : Cur w4 c s (p + 1) off := Blk.grown HC3 g4 (by simp; omega); have G4 := grown_own G3 g4 (Nat.le_refl _))
  clear HR3 HC3 G3 b4 g4
  by_cases q1 : s.size < p + 3
  · refine (cbridge_bad1 HC4 (by omega) (by omega) hb).mono ?_
    rintro e w9 ⟨rfl, g9⟩
    go_wp2
    exact ⟨rfl, Or.inl ⟨7, p + 1, by unfold bdE; simp only [if_neg q0, if_pos q1], rfl, grown_same G4 g9⟩⟩
  by_cases q3 : s.size < p + 9
  · refine (cbridge_bad2 HC4 (by omega) (by omega) hb).mono ?_
    rintro e w9 ⟨rfl, g9⟩
    go_wp2
    exact ⟨rfl, Or.inl ⟨7, p + 3, by unfold bdE; simp only [if_neg q0, if_neg q1, if_pos q3], rfl, grown_same G4 g9⟩⟩
  refine (cbridge_ok HC4 (by omega) hb).mono ?_
  rintro e w5 ⟨rfl, HC5, g5⟩
  have HR5 := HR4.grown g5 (by simp; omega)
  have G5 := grown_same G4 g5
  clear HR4 HC4 G4 g5
  go_wp2_with (refine store_blk (k := 8) 27 (.agg (brC (brAt s (p + 1)))) (bpC ⟨k, (ofF (numAt s p 1)), (brAt s (p + 1)), 0, ⟨0, 0, z6b⟩, 0, 0, 0, 0, 0, 0⟩) (by rfl) rfl rfl rfl HR5 (by kernel_rfl) (show (8 + 8 : Nat) ≤ 31 by decide) (by rfl) rfl ?_; intro w6 HR6 b6 g6; have HC6 : Cur w6 c s (p + 1 + 8) off := Blk.grown HC5 g6 (by simp; omega); have G6 := grown_own G5 g6 (Nat.le_refl _))
  clear HR5 HC5 G5 b6 g6
  replace HC6 : Cur _ c s (p + 9) off := HC6
  by_cases q9 : s.size < p + 13
  · refine (cnum_bad HC6 4 (by omega) (by omega) (by decide) hb).mono ?_
    rintro e w9 ⟨rfl, g9⟩
    go_wp2
    exact ⟨rfl, Or.inl ⟨7, p + 9, by unfold bdE; simp only [if_neg q0, if_neg q1, if_neg q3, if_pos q9], rfl, grown_belowT G6 g9⟩⟩
  have q9n : p + 13 ≤ s.size := by omega
  refine (cnum_ok HC6 4 (by decide) (by omega) hb).mono ?_
  rintro e w7 ⟨rfl, HC7, g7⟩
  have HR7 := HR6.grown g7 (by simp; omega)
  have G7 := grown_same G6 g7
  clear HR6 HC6 G6 g7
  go_wp2_with (refine store_blk (k := 16) 3 (.int .i64 (numAt s (p + 9) 4 : Int)) (bpC ⟨k, (ofF (numAt s p 1)), (brAt s (p + 1)), (numAt s (p + 9) 4 : Int), ⟨0, 0, z6b⟩, 0, 0, 0, 0, 0, 0⟩) (by rfl) rfl rfl rfl HR7 (by kernel_rfl) (show (16 + 1 : Nat) ≤ 31 by decide) (by rfl) rfl ?_; intro w8 HR8 b8 g8; have HC8 : Cur w8 c s (p + 13) off := Blk.grown HC7 g8 (by simp; omega); have G8 := grown_own G7 g8 (Nat.le_refl _))
  clear HR7 HC7 G7 b8 g8
  by_cases q13 : s.size < p + 15
  · refine (cbridge_bad1 HC8 (by omega) (by omega) hb).mono ?_
    rintro e w9 ⟨rfl, g9⟩
    go_wp2
    exact ⟨rfl, Or.inl ⟨7, p + 13, by unfold bdE; simp only [if_neg q0, if_neg q1, if_neg q3, if_neg q9, if_pos q13], rfl, grown_same G8 g9⟩⟩
  by_cases q15 : s.size < p + 21
  · refine (cbridge_bad2 HC8 (by omega) (by omega) hb).mono ?_
    rintro e w9 ⟨rfl, g9⟩
    go_wp2
    exact ⟨rfl, Or.inl ⟨7, p + 15, by unfold bdE; simp only [if_neg q0, if_neg q1, if_neg q3, if_neg q9, if_neg q13, if_pos q15], rfl, grown_same G8 g9⟩⟩
  refine (cbridge_ok HC8 (by omega) hb).mono ?_
  rintro e w9 ⟨rfl, HC9, g9⟩
  have HR9 := HR8.grown g9 (by simp; omega)
  have G9 := grown_same G8 g9
  clear HR8 HC8 G8 g9
  go_wp2_with (refine store_blk (k := 17) 27 (.agg (brC (brAt s (p + 13)))) (bpC ⟨k, (ofF (numAt s p 1)), (brAt s (p + 1)), (numAt s (p + 9) 4 : Int), (brAt s (p + 13)), 0, 0, 0, 0, 0, 0⟩) (by rfl) rfl rfl rfl HR9 (by kernel_rfl) (show (17 + 8 : Nat) ≤ 31 by decide) (by rfl) rfl ?_; intro w10 HR10 b10 g10; have HC10 : Cur w10 c s (p + 13 + 8) off := Blk.grown HC9 g10 (by simp; omega); have G10 := grown_own G9 g10 (Nat.le_refl _))
  clear HR9 HC9 G9 b10 g10
  replace HC10 : Cur _ c s (p + 21) off := HC10
  by_cases q21 : s.size < p + 23
  · refine (cport_bad1 HC10 (by omega) (by omega) hb).mono ?_
    rintro e w9 ⟨rfl, g9⟩
    go_wp2
    exact ⟨rfl, Or.inl ⟨7, p + 21, by unfold bdE; simp only [if_neg q0, if_neg q1, if_neg q3, if_neg q9, if_neg q13, if_neg q15, if_pos q21], rfl, grown_same G10 g9⟩⟩
  by_cases qz : beAt s (p + 21) % 4096 = 0
  · have qz2 : pzAt s (p + 21) = true := by unfold pzAt; rw [beq_iff_eq]; exact qz
    refine (cport_bad2 HC10 (by omega) qz hb).mono ?_
    rintro e w9 ⟨rfl, g9⟩
    go_wp2
    exact ⟨rfl, Or.inl ⟨2, p + 21, by unfold bdE; simp only [if_neg q0, if_neg q1, if_neg q3, if_neg q9, if_neg q13, if_neg q15, if_neg q21, if_pos qz2], rfl, grown_same G10 g9⟩⟩
  have qz2 : ¬ pzAt s (p + 21) = true := by unfold pzAt; rw [beq_iff_eq]; exact qz
  refine (cport_ok HC10 (by omega) qz hb).mono ?_
  rintro e w11 ⟨rfl, HC11, g11⟩
  have HR11 := HR10.grown g11 (by simp; omega)
  have G11 := grown_same G10 g11
  clear HR10 HC10 G10 g11
  go_wp2_with (refine store_blk (k := 25) 29 (.agg (ptAt s (p + 21))) (bpC ⟨k, (ofF (numAt s p 1)), (brAt s (p + 1)), (numAt s (p + 9) 4 : Int), (brAt s (p + 13)), ((beAt s (p + 21) : Int) / 4096 * 16), ((beAt s (p + 21) : Int) % 4096), 0, 0, 0, 0⟩) (by rfl) rfl rfl rfl HR11 (by kernel_rfl) (show (25 + 2 : Nat) ≤ 31 by decide) (by rfl) rfl ?_; intro w12 HR12 b12 g12; have HC12 : Cur w12 c s (p + 21 + 2) off := Blk.grown HC11 g12 (by simp; omega); have G12 := grown_own G11 g12 (Nat.le_refl _))
  clear HR11 HC11 G11 b12 g12
  replace HC12 : Cur _ c s (p + 23) off := HC12
  by_cases q23 : s.size < p + 25
  · refine (cnum_bad HC12 2 (by omega) (by omega) (by decide) hb).mono ?_
    rintro e w9 ⟨rfl, g9⟩
    go_wp2
    exact ⟨rfl, Or.inl ⟨7, p + 23, by unfold bdE; simp only [if_neg q0, if_neg q1, if_neg q3, if_neg q9, if_neg q13, if_neg q15, if_neg q21, if_neg qz2, if_pos q23], rfl, grown_belowT G12 g9⟩⟩
  have q23n : p + 25 ≤ s.size := by omega
  refine (cnum_ok HC12 2 (by decide) (by omega) hb).mono ?_
  rintro e w13 ⟨rfl, HC13, g13⟩
  have HR13 := HR12.grown g13 (by simp; omega)
  have G13 := grown_same G12 g13
  clear HR12 HC12 G12 g13
  go_wp2_with fail
  by_cases q25 : s.size < p + 27
  · refine (cnum_bad HC13 2 (by omega) (by omega) (by decide) hb).mono ?_
    rintro e w9 ⟨rfl, g9⟩
    go_wp2
    exact ⟨rfl, Or.inl ⟨7, p + 25, by unfold bdE; simp only [if_neg q0, if_neg q1, if_neg q3, if_neg q9, if_neg q13, if_neg q15, if_neg q21, if_neg qz2, if_neg q23, if_pos q25], rfl, grown_belowT G13 g9⟩⟩
  have q25n : p + 27 ≤ s.size := by omega
  refine (cnum_ok HC13 2 (by decide) (by omega) hb).mono ?_
  rintro e w14 ⟨rfl, HC14, g14⟩
  have HR14 := HR13.grown g14 (by simp; omega)
  have G14 := grown_same G13 g14
  clear HR13 HC13 G13 g14
  go_wp2_with fail
  by_cases q27 : s.size < p + 29
  · refine (cnum_bad HC14 2 (by omega) (by omega) (by decide) hb).mono ?_
    rintro e w9 ⟨rfl, g9⟩
    go_wp2
    exact ⟨rfl, Or.inl ⟨7, p + 27, by unfold bdE; simp only [if_neg q0, if_neg q1, if_neg q3, if_neg q9, if_neg q13, if_neg q15, if_neg q21, if_neg qz2, if_neg q23, if_neg q25, if_pos q27], rfl, grown_belowT G14 g9⟩⟩
  have q27n : p + 29 ≤ s.size := by omega
  refine (cnum_ok HC14 2 (by decide) (by omega) hb).mono ?_
  rintro e w15 ⟨rfl, HC15, g15⟩
  have HR15 := HR14.grown g15 (by simp; omega)
  have G15 := grown_same G14 g15
  clear HR14 HC14 G14 g15
  go_wp2_with fail
  by_cases q29 : s.size < p + 31
  · refine (cnum_bad HC15 2 (by omega) (by omega) (by decide) hb).mono ?_
    rintro e w9 ⟨rfl, g9⟩
    go_wp2
    exact ⟨rfl, Or.inl ⟨7, p + 29, by unfold bdE; simp only [if_neg q0, if_neg q1, if_neg q3, if_neg q9, if_neg q13, if_neg q15, if_neg q21, if_neg qz2, if_neg q23, if_neg q25, if_neg q27, if_pos q29], rfl, grown_belowT G15 g9⟩⟩
  have q29n : p + 31 ≤ s.size := by omega
  refine (cnum_ok HC15 2 (by decide) (by omega) hb).mono ?_
  rintro e w16 ⟨rfl, HC16, g16⟩
  have HR16 := HR15.grown g16 (by simp; omega)
  have G16 := grown_same G15 g16
  clear HR15 HC15 G15 g16
  go_wp2_with (first
      | (refine store_blk (k := 27) 3 (.int .i64 (numAt s (p + 23) 2 : Int)) (bpC ⟨k, (ofF (numAt s p 1)), (brAt s (p + 1)), (numAt s (p + 9) 4 : Int), (brAt s (p + 13)), ((beAt s (p + 21) : Int) / 4096 * 16), ((beAt s (p + 21) : Int) % 4096), (numAt s (p + 23) 2 : Int), 0, 0, 0⟩) (by rfl) rfl rfl rfl HR16 (by kernel_rfl) (show (27 + 1 : Nat) ≤ 31 by decide) (by rfl) rfl ?_; intro w17 HR17 b17 g17; have HC17 : Cur w17 c s (p + 31) off := Blk.grown HC16 g17 (by simp; omega); have G17 := grown_own G16 g17 (Nat.le_refl _))
      | (refine store_blk (k := 28) 3 (.int .i64 (numAt s (p + 25) 2 : Int)) (bpC ⟨k, (ofF (numAt s p 1)), (brAt s (p + 1)), (numAt s (p + 9) 4 : Int), (brAt s (p + 13)), ((beAt s (p + 21) : Int) / 4096 * 16), ((beAt s (p + 21) : Int) % 4096), (numAt s (p + 23) 2 : Int), (numAt s (p + 25) 2 : Int), 0, 0⟩) (by rfl) rfl rfl rfl HR17 (by kernel_rfl) (show (28 + 1 : Nat) ≤ 31 by decide) (by rfl) rfl ?_; intro w18 HR18 b18 g18; have HC18 : Cur w18 c s (p + 31) off := Blk.grown HC17 g18 (by simp; omega); have G18 := grown_own G17 g18 (Nat.le_refl _))
      | (refine store_blk (k := 29) 3 (.int .i64 (numAt s (p + 27) 2 : Int)) (bpC ⟨k, (ofF (numAt s p 1)), (brAt s (p + 1)), (numAt s (p + 9) 4 : Int), (brAt s (p + 13)), ((beAt s (p + 21) : Int) / 4096 * 16), ((beAt s (p + 21) : Int) % 4096), (numAt s (p + 23) 2 : Int), (numAt s (p + 25) 2 : Int), (numAt s (p + 27) 2 : Int), 0⟩) (by rfl) rfl rfl rfl HR18 (by kernel_rfl) (show (29 + 1 : Nat) ≤ 31 by decide) (by rfl) rfl ?_; intro w19 HR19 b19 g19; have HC19 : Cur w19 c s (p + 31) off := Blk.grown HC18 g19 (by simp; omega); have G19 := grown_own G18 g19 (Nat.le_refl _))
      | (refine store_blk (k := 30) 3 (.int .i64 (numAt s (p + 29) 2 : Int)) (bpC ⟨k, (ofF (numAt s p 1)), (brAt s (p + 1)), (numAt s (p + 9) 4 : Int), (brAt s (p + 13)), ((beAt s (p + 21) : Int) / 4096 * 16), ((beAt s (p + 21) : Int) % 4096), (numAt s (p + 23) 2 : Int), (numAt s (p + 25) 2 : Int), (numAt s (p + 27) 2 : Int), (numAt s (p + 29) 2 : Int)⟩) (by rfl) rfl rfl rfl HR19 (by kernel_rfl) (show (30 + 1 : Nat) ≤ 31 by decide) (by rfl) rfl ?_; intro w20 HR20 b20 g20; have HC20 : Cur w20 c s (p + 31) off := Blk.grown HC19 g20 (by simp; omega); have G20 := grown_own G19 g20 (Nat.le_refl _))
      | (refine load_blk (k := 0) 31 (bpC (bpAt s p k)) (by rfl) rfl rfl HR20 (by kernel_rfl) (by kernel_rfl) rfl ?_)
      | (refine store_blk (k := 0) 31 (.agg (bpC (bpAt s p k))) (bpC (bpAt s p k)) (by rfl) rfl rfl rfl HR20 (by kernel_rfl) (show (31 : Nat) ≤ 31 from Nat.le_refl 31) (by rfl) (st_whole _ _ rfl) ?_; intro w21 HR21 b21 g21; have HC21 : Cur w21 c s (p + 31) off := Blk.grown HC20 g21 (by simp; omega); have G21 := grown_own G20 g21 (Nat.le_refl _)))
  exact bodyPost_ret (results_blk rfl rfl HR21 (by kernel_rfl) (by kernel_rfl)) rfl (Or.inr ⟨by unfold bdE; simp only [if_neg q0, if_neg q1, if_neg q3, if_neg q9, if_neg q13, if_neg q15, if_neg q21, if_neg qz2, if_neg q23, if_neg q25, if_neg q27, if_neg q29], rfl, HC21, G21⟩)

end Go.Proofs.YtdjljnpbnhampaaDoor

namespace Go.Proofs.YtdjljnpbnhampaaDoor
open Go.RowKit
attribute [local go_sem ↓] Go.wp_at_zero Go.wp_at_succ
set_option linter.unusedSimpArgs false
set_option linter.unusedVariables false
set_option maxRecDepth 100000


theorem ms_clo_ok (E A : Nat) (pl : Int) (w : World) (HE : Blk w E 37 (ftC 0 pl)) :
    CallsD Tryd.prog 27 #[.pointer (some ⟨E, 0, none⟩), .pointer (some ⟨A, 0, none⟩)] .returning w fun r u' w' => u' = .returning ∧ (r = .returned (.tuple #[]) ∧ Below w.heap.size w w') := by
  go_enter_d Tryd.func27, Tryd.ntmps27
  go_wp2_with (refine load_blk (k := 0) 37 (ftC 0 pl) (by rfl) rfl rfl HE (by kernel_rfl) (by kernel_rfl) rfl ?_)
  refine (is_any 0 pl _).mono ?_
  rintro e w2 ⟨rfl, b2⟩
  go_wp2
  go_end0
  exact ⟨rfl, b2⟩

theorem ms_clo_bad (E A : Nat) (e pl : Int) (x : Ms) (v : Value) (w : World) (he : e ≠ 0) (HE : Blk w E 37 (ftC e pl)) (HA : Blk w A 34 (msC x v)) (hne : A ≠ E) :
    CallsD Tryd.prog 27 #[.pointer (some ⟨E, 0, none⟩), .pointer (some ⟨A, 0, none⟩)] .returning w fun r u' w' => u' = .returning ∧ (r = .returned (.tuple #[]) ∧ Blk w' A 34 (msC zMs (.slice none 0 0)) ∧ Blk w' E 37 (ftC e pl) ∧ w.grownBy w' (some A)) := by
  have h1 : (e == 0) = false := by simp [he]
  clear he
  go_enter_d Tryd.func27, Tryd.ntmps27
  go_wp2_with (refine load_blk (k := 0) 37 (ftC e pl) (by rfl) rfl rfl HE (by kernel_rfl) (by kernel_rfl) rfl ?_)
  refine (is_any e pl _).mono ?_
  rintro r w2 ⟨rfl, b2⟩
  have HA2 := HA.kept b2
  have HE2 := HE.kept b2
  have hg2 : w.grownBy w2 (some A) := ⟨b2.os, b2.tape, b2.output, b2.size, fun k hk _ => b2.block k hk⟩
  go_wp2_with (first | (refine build_blk (t := 34) (msC zMs (.slice none 0 0)) (by rfl) rfl (by kernel_rfl) ?_) | (refine store_blk (k := 0) 34 (.agg (msC zMs (.slice none 0 0))) (msC zMs (.slice none 0 0)) (by rfl) rfl rfl rfl HA2 (by kernel_rfl) (by exact Nat.le_refl 45) rfl rfl (fun w3 HA3 b3 g3 => ?_)))
  go_end0
  exact ⟨rfl, HA3, HE2.grown g3 (by simpa using Ne.symm hne), grownBy_trans hg2 g3⟩

/-- Behind what was thrown. -/
theorem ms_door_bad {Q : Ending → World → Prop} {w0 w : World} {tmps : Array Value} {A E : Nat} {x : Ms} {v : Value} {e0 pl0 e pl : Int} (hQ : ∀ w', Below w0.heap.size w0 w' → Q (.returned (.tuple #[.agg (msC zMs (.slice none 0 0)), .agg (ftC e pl)])) w') (ht2 : tmps.getD 2 undef = .pointer (some ⟨A, 0, none⟩)) (ht3 : tmps.getD 3 undef = .pointer (some ⟨E, 0, none⟩)) (he : e ≠ 0)
    (HA : Blk w A 34 (msC x v)) (HE : Blk w E 37 (ftC e0 pl0)) (hne : A ≠ E) (hA : w0.heap.size ≤ A) (hE : w0.heap.size ≤ E) (hb : Below w0.heap.size w0 w) :
    Leaves Tryd.prog Tryd.f7 tmps Q
      [{ target := .fn (.func 29) #[], args := #[.pointer (some ⟨E, 0, none⟩)] }, { target := .fn (.func 27) #[.pointer (some ⟨E, 0, none⟩), .pointer (some ⟨A, 0, none⟩)], args := #[] }] (.panicking (Thrown e pl)) w := by
  refine leaves_cons (f := 29) (args := #[.pointer (some ⟨E, 0, none⟩)]) (by simp [Thrown]) (by simp [go_sem]) ?_
  refine (caught_thrown E e0 pl0 e pl [] w HE).mono ?_
  rintro r u' w2 ⟨rfl, rfl, HE2, g2⟩
  have HA2 := HA.grown g2 (by simpa using hne)
  have b2 : Below w0.heap.size w0 w2 := grown_belowA hb g2 hb.size hE
  refine leaves_cons (f := 27) (args := #[.pointer (some ⟨E, 0, none⟩), .pointer (some ⟨A, 0, none⟩)]) (by simp [settle]) (by simp [go_sem]) ?_
  refine (ms_clo_bad E A e pl x v w2 he HE2 HA2 hne).mono ?_
  rintro r u' w3 ⟨rfl, rfl, HA3, HE3, g3⟩
  exact ⟨_, results_blk2 rfl ht2 ht3 HA3 HE3 (by kernel_rfl) (by kernel_rfl) (by kernel_rfl) (by kernel_rfl), hQ _ (grown_belowA b2 g3 b2.size hA)⟩

/-- Where nothing was thrown. -/
theorem ms_door_ok {Q : Ending → World → Prop} {w0 w : World} {tmps : Array Value} {A E : Nat} {x : Ms} {v : Value} {pl : Int} (hQ : ∀ w', Below w.heap.size w w' → Below w0.heap.size w0 w' → Q (.returned (.tuple #[.agg (msC x v), .agg (ftC 0 pl)])) w') (ht2 : tmps.getD 2 undef = .pointer (some ⟨A, 0, none⟩)) (ht3 : tmps.getD 3 undef = .pointer (some ⟨E, 0, none⟩))
    (HA : Blk w A 34 (msC x v)) (HE : Blk w E 37 (ftC 0 pl)) (hb : Below w0.heap.size w0 w) :
    Leaves Tryd.prog Tryd.f7 tmps Q
      [{ target := .fn (.func 29) #[], args := #[.pointer (some ⟨E, 0, none⟩)] }, { target := .fn (.func 27) #[.pointer (some ⟨E, 0, none⟩), .pointer (some ⟨A, 0, none⟩)], args := #[] }] .returning w := by
  refine leaves_cons (f := 29) (args := #[.pointer (some ⟨E, 0, none⟩)]) (by simp) (by simp [go_sem]) ?_
  refine (caught_idle ⟨E, 0, none⟩ w).mono ?_
  rintro r u' w2 ⟨rfl, rfl, rfl⟩
  refine leaves_cons (f := 27) (args := #[.pointer (some ⟨E, 0, none⟩), .pointer (some ⟨A, 0, none⟩)]) (by simp [settle]) (by simp [go_sem]) ?_
  refine (ms_clo_ok E A pl w2 HE).mono ?_
  rintro r u' w3 ⟨rfl, rfl, b3⟩
  exact ⟨_, results_blk2 rfl ht2 ht3 (HA.kept b3) (HE.kept b3) (by kernel_rfl) (by kernel_rfl) (by kernel_rfl) (by kernel_rfl), hQ _ b3 (hb.trans (b3.mono hb.size))⟩


end Go.Proofs.YtdjljnpbnhampaaDoor

