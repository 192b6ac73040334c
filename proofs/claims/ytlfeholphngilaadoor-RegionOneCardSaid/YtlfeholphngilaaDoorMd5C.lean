/- 10.1: the mark as the program makes it: the whole blocks, then the rest and what stands behind it. -/
import Derived.Test.YtlfeholphngilaaDoorMd5F
import Derived.Test.YtlfeholphngilaaDoorMd5Q
import Derived.Test.YtlfeholphngilaaDoorMd5W
namespace Go.Proofs.YtlfeholphngilaaDoor
set_option linter.unusedVariables false

theorem runG_zero (B : List UInt8 → Q4 → Q4) (l : List UInt8) (h : Q4) : runG B 0 l h = h := rfl
theorem runG_take (B : List UInt8 → Q4 → Q4) : ∀ (k : Nat) (l : List UInt8) (h : Q4), runG B k (l.take (64 * k)) h = runG B k l h
  | 0, l, h => rfl
  | k + 1, l, h => by
    rw [runG_succ, runG_succ, List.take_take, Nat.min_eq_left (by omega), List.drop_take, show 64 * (k + 1) - 64 = 64 * k by omega, runG_take B k]
theorem runG_snoc (B : List UInt8 → Q4 → Q4) : ∀ (j : Nat) (l : List UInt8) (h : Q4), runG B (j + 1) l h = B ((l.drop (64 * j)).take 64) (runG B j l h)
  | 0, l, h => by rw [runG_succ, runG_zero, runG_zero, Nat.mul_zero, List.drop_zero]
  | j + 1, l, h => by
    rw [runG_succ, runG_snoc B j, List.drop_drop, runG_succ B j, show 64 + 64 * j = 64 * (j + 1) by omega]
/-- What stands behind a text of n bytes. -/
def padT (n : Nat) : List UInt8 := 128 :: (List.replicate (padN n) 0 ++ leN (n * 8) 8)
theorem padL_eq (l : List UInt8) : padL l = l ++ padT l.length := rfl
theorem padT_len (n : Nat) : (padT n).length = 9 + padN n := by
  unfold padT
  simp only [List.length_cons, List.length_append, List.length_replicate, leN_len]
  omega
theorem sum_parts (l : List UInt8) (q k : Nat) (hq : q = l.length / 64) (hk : 64 * q + 64 * k = (padL l).length) :
    runG blockG k (l.drop (64 * q) ++ padT l.length) (runG blockG q (l.take (64 * q)) md0) = blocksN (padL l) ((padL l).length / 64) := by
  have hle : 64 * q ≤ l.length := by omega
  have e1 : l.drop (64 * q) ++ padT l.length = (padL l).drop (64 * q) := by rw [padL_eq, List.drop_append_of_le_length hle]
  have e2 : l.take (64 * q) = (padL l).take (64 * q) := by rw [padL_eq, List.take_append_of_le_length hle]
  have h1 := runF_eq (padL l) q 0
  rw [Nat.mul_zero, List.drop_zero, Nat.zero_add, show blocksN (padL l) 0 = md0 from rfl] at h1
  have h2 := runF_eq (padL l) k q
  rw [e1, e2, runG_take, h1, h2, ← hk]
  congr 1
  omega
theorem sum_md5 (l : List UInt8) (q k : Nat) (hq : q = l.length / 64) (hk : 64 * q + 64 * k = (padL l).length) :
    outN (runG blockG k (l.drop (64 * q) ++ padT l.length) (runG blockG q (l.take (64 * q)) md0)) = md5L l := by
  have h := sum_parts l q k hq hk
  unfold md5L
  rw [h]
theorem addN_lt (h x : Q4) : ltQ (addN h x) := ⟨⟨Nat.mod_lt _ (by decide), Nat.mod_lt _ (by decide)⟩, Nat.mod_lt _ (by decide), Nat.mod_lt _ (by decide)⟩
theorem blockG_lt (l : List UInt8) (h : Q4) : ltQ (blockG l h) := addN_lt _ _
theorem runG_lt : ∀ (k : Nat) (l : List UInt8) {h : Q4}, ltQ h → ltQ (runG blockG k l h)
  | 0, _, _, hh => hh
  | k + 1, l, h, _ => by
    rw [runG_succ]
    exact runG_lt k _ (blockG_lt _ _)
theorem md0_lt : ltQ md0 := ⟨⟨show 1732584193 < 4294967296 by decide, show 4023233417 < 4294967296 by decide⟩, show 2562383102 < 4294967296 by decide, show 271733878 < 4294967296 by decide⟩
/-- A block's words as cells. -/
def wC (l : List UInt8) : Array Value := ((List.range 16).map fun j => Value.int .u32 (wordN l (4 * j) : Nat)).toArray
theorem wC_size (l : List UInt8) : (wC l).size = 16 := by simp [wC]
theorem wC_at (l : List UInt8) (j : Nat) (h : j < 16) : (wC l)[j]? = some (.int .u32 (wordN l (4 * j) : Nat)) := by simp [wC, h]
/-- The words of the first k bytes. -/
def wK (l : List UInt8) (k : Nat) : Array Value := ((List.range 16).map fun j => Value.int .u32 (wordK l k (4 * j) : Nat)).toArray
theorem wK_size (l : List UInt8) (k : Nat) : (wK l k).size = 16 := by simp [wK]
theorem wK_at (l : List UInt8) (k j : Nat) (h : j < 16) : (wK l k)[j]? = some (.int .u32 (wordK l k (4 * j) : Nat)) := by simp [wK, h]
theorem wK_all (l : List UInt8) : wK l 64 = wC l := by
  have h : ((List.range 16).map fun j => Value.int .u32 (wordK l 64 (4 * j) : Nat)) = ((List.range 16).map fun j => Value.int .u32 (wordN l (4 * j) : Nat)) := List.map_congr_left (fun j hj => by
    have hj2 := List.mem_range.1 hj
    show Value.int .u32 ((wordK l 64 (4 * j) : Nat) : Int) = _
    rw [wordK_all l 64 (4 * j) (by omega)])
  unfold wK wC
  rw [h]
theorem wK_set (l : List UInt8) (k : Nat) (h : k < 64) (x : Nat) (hx : x = wordK l (k + 1) (4 * (k / 4))) : (wK l k).setIfInBounds (k / 4) (.int .u32 (x : Nat)) = wK l (k + 1) := by
  apply Array.ext_getElem?
  intro j
  by_cases hj : j < 16
  · rw [Array.getElem?_setIfInBounds, wK_at l (k + 1) j hj]
    by_cases c : k / 4 = j
    · rw [if_pos c, if_pos (by rw [wK_size]; omega), hx, c]
    · rw [if_neg c, wK_at l k j hj, wordK_other l k (4 * j) (by omega)]
  · rw [Array.getElem?_eq_none (by rw [Array.size_setIfInBounds, wK_size]; omega), Array.getElem?_eq_none (by rw [wK_size]; omega)]
/-- What a step mixes, and which word it takes, before it is taken modulo 16. -/
def gX (i : Nat) : Nat := if i < 16 then i else if i < 32 then 5 * i + 1 else if i < 48 then 3 * i + 5 else 7 * i
theorem gX_mod (i : Nat) : gX i % 16 = gN i := by
  unfold gX gN
  split
  · omega
  · split
    · rfl
    · split
      · rfl
      · rfl
theorem gX_lt (i : Nat) (h : i < 64) : gX i < 1000 := by
  unfold gX
  split
  · omega
  · split
    · omega
    · split
      · omega
      · omega

end Go.Proofs.YtlfeholphngilaaDoor
