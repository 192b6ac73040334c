/- A wire.Reader beside the plain answer: what Bytes, Num, Fail, Zeros and Err do in any state. -/
import Derived.Test.YtdceggekhhflgaaDoorRdNum
import Derived.Test.YtdceggekhhflgaaDoorFlt
import Derived.Test.YtdceggekhhflgaaDoorBlk
namespace Go.Proofs.YtdceggekhhflgaaDoor
open Go.RowKit
set_option linter.unusedVariables false

/-- How much is read; what was wrong first (0: nothing), and where (-1: nowhere). -/
abbrev RSt := Nat × Int × Int

/-- The next n bytes (num: of a number). -/
def tkN (s : List UInt8) (off : Nat) (st : RSt) (n : Int) (num : Bool) : List UInt8 × RSt :=
  if st.2.1 ≠ 0 then ([], st)
  else if n < 0 ∨ (num = true ∧ (n < 1 ∨ 8 < n)) then ([], st.1, 2, (off : Int) + st.1)
  else if (s.length : Int) - st.1 < n then ([], st.1, 7, (off : Int) + st.1)
  else ((s.drop st.1).take n.toNat, st.1 + n.toNat, st.2)

/-- What is wrong is noted, if it is the first. -/
def flR (st : RSt) (e pl : Int) : RSt := if st.2.1 ≠ 0 then st else (st.1, e, pl)

theorem tkN_le (s : List UInt8) (off : Nat) (st : RSt) (n : Int) (num : Bool) (h : st.1 ≤ s.length) : (tkN s off st n num).2.1 ≤ s.length := by
  unfold tkN
  split
  · exact h
  · split
    · exact h
    · split
      · exact h
      · show st.1 + n.toNat ≤ s.length
        omega

theorem flR_le (s : List UInt8) (st : RSt) (e pl : Int) (h : st.1 ≤ s.length) : (flR st e pl).1 ≤ s.length := by
  unfold flR
  split <;> exact h

/-- Once noted, always noted. -/
theorem tkN_bad (s : List UInt8) (off : Nat) (st : RSt) (n : Int) (num : Bool) (h : st.2.1 ≠ 0) : tkN s off st n num = ([], st) := by unfold tkN; rw [if_pos h]

theorem flR_bad (st : RSt) (e pl : Int) (h : st.2.1 ≠ 0) : flR st e pl = st := by unfold flR; rw [if_pos h]

theorem flR_ne (st : RSt) (e pl : Int) (he : e ≠ 0) : (flR st e pl).2.1 ≠ 0 := by
  unfold flR
  split
  · assumption
  · exact he

/-- Bytes come if nothing was wrong before, and they are there. -/
theorem tkN_ok (s : List UInt8) (off : Nat) (st : RSt) (n : Nat) (num : Bool) (h : (tkN s off st n num).2.2.1 = 0) : st.2.1 = 0 ∧ st.1 + n ≤ s.length ∧ tkN s off st n num = ((s.drop st.1).take n, st.1 + n, st.2) := by
  unfold tkN at h ⊢
  by_cases h1 : st.2.1 ≠ 0
  · rw [if_pos h1] at h; exact absurd h h1
  · rw [if_neg h1] at h ⊢
    by_cases h2 : (n : Int) < 0 ∨ (num = true ∧ ((n : Int) < 1 ∨ 8 < (n : Int)))
    · rw [if_pos h2] at h; exact absurd (show (2 : Int) = 0 from h) (by decide)
    · rw [if_neg h2] at h ⊢
      by_cases h3 : (s.length : Int) - st.1 < n
      · rw [if_pos h3] at h; exact absurd (show (7 : Int) = 0 from h) (by decide)
      · rw [if_neg h3]
        exact ⟨by simpa using h1, by omega, by simp⟩

theorem tkN_go (s : List UInt8) (off : Nat) (st : RSt) (n : Nat) (num : Bool) (h : st.2.1 = 0) (hn : st.1 + n ≤ s.length) (hw : num = true → 1 ≤ n ∧ n ≤ 8) : tkN s off st n num = ((s.drop st.1).take n, st.1 + n, st.2) := by
  unfold tkN
  rw [if_neg (by simpa using h), if_neg (by intro q; rcases q with q | ⟨q, q2⟩; omega; have := hw q; omega), if_neg (by omega)]
  simp

theorem tkN_miss (s : List UInt8) (off : Nat) (st : RSt) (n : Nat) (num : Bool) (h : st.2.1 = 0) (hn : ¬ st.1 + n ≤ s.length) (hp : st.1 ≤ s.length) (hw : num = true → 1 ≤ n ∧ n ≤ 8) : tkN s off st n num = ([], st.1, 7, (off : Int) + st.1) := by
  unfold tkN
  rw [if_neg (by simpa using h), if_neg (by intro q; rcases q with q | ⟨q, q2⟩; omega; have := hw q; omega), if_pos (by omega)]

/-- All of them, or none. -/
theorem tkN_len (s : List UInt8) (off : Nat) (st : RSt) (n : Nat) (num : Bool) : (tkN s off st n num).1 = [] ∨ (tkN s off st n num).1.length = n := by
  unfold tkN
  split
  · exact Or.inl rfl
  · split
    · exact Or.inl rfl
    · split
      · exact Or.inl rfl
      · right
        show ((s.drop st.1).take (n : Int).toNat).length = n
        rw [List.length_take, List.length_drop]
        omega

/-- What is noted (e, at pl) lies at f. -/
def FsT (w : World) (e pl : Int) (f : Option Addr) : Prop := (e = 0 ∧ f = none) ∨ (e ≠ 0 ∧ ∃ q, f = some ⟨q, 0, none⟩ ∧ Flt w q e pl)







theorem FsT.below {w w' : World} {e pl : Int} {f : Option Addr} (h : FsT w e pl f) (hb : Below w.heap.size w w') : FsT w' e pl f := by
  rcases h with h | ⟨he, q, hq, hf⟩
  · exact Or.inl h
  · exact Or.inr ⟨he, q, hq, hf.below hb⟩













theorem bytesT_of (s : ByteArray) (p n : Nat) : (s.extract p s.size).extract 0 n = ⟨((s.data.toList.drop p).take n).toArray⟩ := by
  apply ByteArray.ext
  apply Array.toList_inj.1
  rw [extract_list, Lib.extract_to_end]
  simp

theorem restT_size (s : ByteArray) (p : Nat) (hp : p ≤ s.size) : (s.extract p s.size).size = s.size - p := by rw [ByteArray.size_extract]; omega













end Go.Proofs.YtdceggekhhflgaaDoor
