/- What is done with a Reader, one thing behind the other: the plain answer (1.2). Nothing of the program stands here. -/
import Derived.Test.YtiikdmempgmlnaaDoorZeros
import Derived.Lib.Itoa
import Derived.Lib.ItoaNum
import Derived.Lib.ItoaLen
namespace Go.Proofs.YtiikdmempgmlnaaDoor
open Go.RowKit

/-- How much is read; what was wrong first (0: nothing), and where (-1: nowhere). -/
abbrev RSt := Nat × Int × Int

/-- The next n bytes, or, if num says so, those of a number. -/
def takeN (s : List UInt8) (off : Nat) (st : RSt) (n : Int) (num : Bool) : List UInt8 × RSt :=
  if st.2.1 ≠ 0 then ([], st)
  else if n < 0 ∨ (num = true ∧ (n < 1 ∨ 8 < n)) then ([], st.1, 2, (off : Int) + st.1)
  else if (s.length : Int) - st.1 < n then ([], st.1, 7, (off : Int) + st.1)
  else ((s.drop st.1).take n.toNat, st.1 + n.toNat, st.2)

/-- One thing that is done: what it gives, and what is left. -/
def stepR (s : List UInt8) (off : Nat) (x : Int × Int) (st : RSt) : List UInt8 × RSt :=
  if x.1 = 0 then takeN s off st x.2 false
  else if x.1 = 1 then (Lib.itoa (wrap64 (beN (takeN s off st x.2 true).1)), (takeN s off st x.2 true).2)
  else if x.1 = 2 then
    if st.2.1 ≠ 0 then (Lib.formatBool false, st)
    else if st.1 + lead (s.drop st.1) = s.length then (Lib.formatBool true, s.length, st.2)
    else (Lib.formatBool false, st.1 + lead (s.drop st.1), 15, (off : Int) + (st.1 + lead (s.drop st.1) : Nat))
  else if x.1 = 3 then
    (Lib.itoa ((off : Int) + st.1) ++ [32] ++ Lib.itoa (takeN s off st x.2 false).1.length ++ [32] ++ (takeN s off st x.2 false).1 ++ [32] ++ Lib.itoa (takeN s off st x.2 false).2.2.1, (takeN s off st x.2 false).2)
  else if x.1 = 4 then
    if st.2.1 ≠ 0 then ([], st) else ([], st.1, 6, x.2)
  else ([], st)

/-- The line that is told of it. -/
def lineOf (s : List UInt8) (off : Nat) (y : List UInt8 × RSt) : List UInt8 :=
  y.1 ++ [124] ++ Lib.itoa ((s.length : Int) - y.2.1) ++ [32] ++ Lib.itoa ((off : Int) + y.2.1)

/-- Behind the first k things. -/
def stN (s : List UInt8) (off : Nat) (l : List (Int × Int)) : Nat → RSt
  | 0 => (0, 0, -1)
  | k + 1 => (stepR s off (l.getD k (0, 0)) (stN s off l k)).2

def lineN (s : List UInt8) (off : Nat) (l : List (Int × Int)) (k : Nat) : List UInt8 := lineOf s off (stepR s off (l.getD k (0, 0)) (stN s off l k))

theorem takeN_le (s : List UInt8) (off : Nat) (st : RSt) (n : Int) (num : Bool) (h : st.1 ≤ s.length) : (takeN s off st n num).2.1 ≤ s.length := by
  unfold takeN
  split
  · exact h
  · split
    · exact h
    · split
      · exact h
      · show st.1 + n.toNat ≤ s.length
        omega

theorem lead_le (l : List UInt8) : lead l ≤ l.length := by unfold lead; omega

theorem stepR_le (s : List UInt8) (off : Nat) (x : Int × Int) (st : RSt) (h : st.1 ≤ s.length) : (stepR s off x st).2.1 ≤ s.length := by
  have h1 := takeN_le s off st x.2 false h
  have h2 := takeN_le s off st x.2 true h
  have h3 := lead_le (s.drop st.1)
  rw [List.length_drop] at h3
  unfold stepR
  split
  · exact h1
  · split
    · exact h2
    · split
      · split
        · exact h
        · split
          · exact Nat.le_refl _
          · show st.1 + lead (s.drop st.1) ≤ s.length
            omega
      · split
        · exact h1
        · split
          · split
            · exact h
            · exact h
          · exact h

theorem stN_le (s : List UInt8) (off : Nat) (l : List (Int × Int)) (k : Nat) : (stN s off l k).1 ≤ s.length := by
  induction k with
  | zero => exact Nat.zero_le _
  | succ k ih => exact stepR_le s off _ _ ih

theorem lead_at (l : List UInt8) (m : Nat) (hm : m ≤ l.length) (h1 : ∀ (j : Nat) b, j < m → l[j]? = some b → b = 0) (h2 : ∀ b, l[m]? = some b → b ≠ 0) : lead l = m := by
  unfold lead
  rw [Lib.trimLeftB_drop l 0 m hm h1 h2, List.length_drop]
  omega

/-- What is noted is one of the errors. -/
def okE (st : RSt) : Prop := 0 ≤ st.2.1 ∧ st.2.1 ≤ 15

theorem takeN_e (s : List UInt8) (off : Nat) (st : RSt) (n : Int) (num : Bool) (h : okE st) : okE (takeN s off st n num).2 := by
  unfold takeN
  split
  · exact h
  · split
    · exact (show (0 : Int) ≤ 2 ∧ (2 : Int) ≤ 15 by decide)
    · split
      · exact (show (0 : Int) ≤ 7 ∧ (7 : Int) ≤ 15 by decide)
      · exact h

theorem stepR_e (s : List UInt8) (off : Nat) (x : Int × Int) (st : RSt) (h : okE st) : okE (stepR s off x st).2 := by
  have h1 := takeN_e s off st x.2 false h
  have h2 := takeN_e s off st x.2 true h
  unfold stepR
  split
  · exact h1
  · split
    · exact h2
    · split
      · split
        · exact h
        · split
          · exact h
          · exact (show (0 : Int) ≤ 15 ∧ (15 : Int) ≤ 15 by decide)
      · split
        · exact h1
        · split
          · split
            · exact h
            · exact (show (0 : Int) ≤ 6 ∧ (6 : Int) ≤ 15 by decide)
          · exact h

theorem stN_e (s : List UInt8) (off : Nat) (l : List (Int × Int)) (k : Nat) : okE (stN s off l k) := by
  induction k with
  | zero => exact (show (0 : Int) ≤ 0 ∧ (0 : Int) ≤ 15 by decide)
  | succ k ih => exact stepR_e s off _ _ ih

theorem takeN_len (s : List UInt8) (off : Nat) (st : RSt) (n : Int) (num : Bool) : (takeN s off st n num).1.length ≤ s.length := by
  unfold takeN
  split
  · exact Nat.zero_le _
  · split
    · exact Nat.zero_le _
    · split
      · exact Nat.zero_le _
      · show ((s.drop st.1).take n.toNat).length ≤ s.length
        rw [List.length_take, List.length_drop]; omega

/-- 'n<<8 | b' on int64, n below 2^56. -/
theorem or_step64 (X : Nat) (b : UInt8) (h : X < 72057594037927936) : bits BinOp.or IntKind.i64 (wrap64 ((X : Int) * 256)) (wrap64 (b.toNat : Int)) = wrap64 ((X * 256 + b.toNat : Nat) : Int) := by
  have hb := b.toNat_lt
  have t1 : (BitVec.ofInt 64 (wrap64 ((X : Int) * 256))).toNat = X * 256 := by
    rw [BitVec.toNat_ofInt]; unfold wrap64; omega
  have t2 : (BitVec.ofInt 64 (wrap64 (b.toNat : Int))).toNat = b.toNat := by
    rw [BitVec.toNat_ofInt]; unfold wrap64; omega
  have e3 := Nat.two_pow_add_eq_or_of_lt (i := 8) (b := b.toNat) (by omega) X
  show IntKind.i64.wrap ((BitVec.ofInt 64 (wrap64 ((X : Int) * 256)) ||| BitVec.ofInt 64 (wrap64 (b.toNat : Int))).toNat : Int) = _
  rw [BitVec.toNat_or, t1, t2, show X * 256 = 2 ^ 8 * X by omega, ← e3, IntKind.wrap_i64]
  unfold wrap64
  omega

theorem takeN_len8 (s : List UInt8) (off : Nat) (st : RSt) (n : Int) : (takeN s off st n true).1.length ≤ 8 := by
  unfold takeN
  split
  · exact Nat.zero_le _
  · split
    · exact Nat.zero_le _
    · rename_i _ h
      split
      · exact Nat.zero_le _
      · show ((s.drop st.1).take n.toNat).length ≤ 8
        rw [List.length_take]
        have h2 : ¬ 8 < n := fun q => h (Or.inr ⟨rfl, Or.inr q⟩)
        omega

theorem wrap64_in (z : Int) : -9223372036854775808 ≤ wrap64 z ∧ wrap64 z ≤ 9223372036854775807 := by unfold wrap64; omega

theorem stepR_len (s : List UInt8) (off : Nat) (x : Int × Int) (st : RSt) (hs : s.length ≤ 100) (ho : off ≤ 1099511627776) (hp : st.1 ≤ s.length) (he : okE st) : (stepR s off x st).1.length ≤ 200 := by
  have h1 := takeN_len s off st x.2 false
  have h3 := takeN_e s off st x.2 false he
  have b1 := Lib.itoa_length_le (wrap64 (beN (takeN s off st x.2 true).1)) (wrap64_in _).1 (wrap64_in _).2
  have b2 := Lib.itoa_length_le ((off : Int) + st.1) (by omega) (by omega)
  have b3 := Lib.itoa_length_le ((takeN s off st x.2 false).1.length : Int) (by omega) (by omega)
  have b4 := Lib.itoa_length_le (takeN s off st x.2 false).2.2.1 (by have := h3.1; omega) (by have := h3.2; omega)
  unfold stepR
  split
  · omega
  · split
    · show (Lib.itoa _).length ≤ 200
      omega
    · split
      · split
        · exact (show (Lib.formatBool false).length ≤ 200 by decide)
        · split
          · exact (show (Lib.formatBool true).length ≤ 200 by decide)
          · exact (show (Lib.formatBool false).length ≤ 200 by decide)
      · split
        · simp only [List.length_append, List.length_cons, List.length_nil]
          omega
        · split
          · split
            · exact Nat.zero_le _
            · exact Nat.zero_le _
          · exact Nat.zero_le _
end Go.Proofs.YtiikdmempgmlnaaDoor
