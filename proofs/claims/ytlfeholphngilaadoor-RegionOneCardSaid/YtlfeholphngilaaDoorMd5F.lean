/- 10.1: marks of texts, block by block: what the kernel reckons. -/
import Derived.Test.YtlfeholphngilaaDoorMd5M
namespace Go.Proofs.YtlfeholphngilaaDoor
set_option linter.unusedVariables false

theorem getD_drop (l : List UInt8) (o i : Nat) : (l.drop o).getD i 0 = l.getD (o + i) 0 := by
  simp [List.getD_eq_getElem?_getD, List.getElem?_drop]
theorem wordN_drop (l : List UInt8) (o j : Nat) : wordN (l.drop o) j = wordN l (o + j) := by
  unfold wordN
  simp only [getD_drop, Nat.add_assoc]
theorem stepsN_drop (l : List UInt8) (o : Nat) (h : Q4) : ∀ k, stepsN (l.drop o) 0 h k = stepsN l o h k
  | 0 => rfl
  | k + 1 => by
    have ih := stepsN_drop l o h k
    show stepN (l.drop o) 0 k (stepsN (l.drop o) 0 h k) = stepN l o k (stepsN l o h k)
    rw [ih]
    unfold stepN xN
    rw [wordN_drop, Nat.zero_add]
theorem blockN_drop (l : List UInt8) (o : Nat) (h : Q4) : blockN (l.drop o) 0 h = blockN l o h := by
  unfold blockN
  rw [stepsN_drop]
/-- Block by block, by whatever makes of a block. -/
def runG (B : List UInt8 → Q4 → Q4) : Nat → List UInt8 → Q4 → Q4
  | 0, _, h => h
  | k + 1, l, h => runG B k (l.drop 64) (B (l.take 64) h)
theorem runG_succ (B : List UInt8 → Q4 → Q4) (k : Nat) (l : List UInt8) (h : Q4) : runG B (k + 1) l h = runG B k (l.drop 64) (B (l.take 64) h) := rfl
def blockG (l : List UInt8) (h : Q4) : Q4 := blockN l 0 h
theorem wordN_take (l : List UInt8) (j : Nat) (hj : j + 3 < 64) : wordN (l.take 64) j = wordN l j := by
  unfold wordN
  have q : ∀ i, i < 64 → (l.take 64).getD i 0 = l.getD i 0 := fun i hi => by simp [List.getD_eq_getElem?_getD, hi]
  rw [q _ (by omega), q _ (by omega), q _ (by omega), q _ (by omega)]
theorem gN_lt (i : Nat) : gN i < 16 ∨ gN i = i ∧ i < 16 := by
  unfold gN
  split
  · exact Or.inr ⟨rfl, by assumption⟩
  · split
    · left; omega
    · split
      · left; omega
      · left; omega
theorem stepsN_take (l : List UInt8) (h : Q4) : ∀ k, stepsN (l.take 64) 0 h k = stepsN l 0 h k
  | 0 => rfl
  | k + 1 => by
    have ih := stepsN_take l h k
    show stepN (l.take 64) 0 k (stepsN (l.take 64) 0 h k) = stepN l 0 k (stepsN l 0 h k)
    rw [ih]
    unfold stepN xN
    rw [wordN_take l _ (by have := gN_lt k; omega)]
theorem blockF (l : List UInt8) (j : Nat) : blockN ((l.drop (64 * j)).take 64) 0 (blocksN l j) = blocksN l (j + 1) := by
  rw [show blocksN l (j + 1) = blockN l (64 * j) (blocksN l j) from rfl, ← blockN_drop l (64 * j)]
  unfold blockN
  rw [stepsN_take]
theorem runF_eq (l : List UInt8) : ∀ k j, runG blockG k (l.drop (64 * j)) (blocksN l j) = blocksN l (j + k)
  | 0, j => rfl
  | k + 1, j => by
    have ih := runF_eq l k (j + 1)
    rw [runG_succ, show blockG ((l.drop (64 * j)).take 64) (blocksN l j) = blocksN l (j + 1) from blockF l j, List.drop_drop, show 64 * j + 64 = 64 * (j + 1) by omega, ih, show j + 1 + k = j + (k + 1) by omega]
def md5F (l : List UInt8) : List UInt8 := outN (runG blockG ((padL l).length / 64) (padL l) md0)
theorem md5F_eq (l : List UInt8) : md5F l = md5L l := by
  have h := runF_eq (padL l) ((padL l).length / 64) 0
  rw [Nat.mul_zero, List.drop_zero, Nat.zero_add] at h
  unfold md5F md5L
  rw [← h, show blocksN (padL l) 0 = md0 from rfl]

end Go.Proofs.YtlfeholphngilaaDoor
