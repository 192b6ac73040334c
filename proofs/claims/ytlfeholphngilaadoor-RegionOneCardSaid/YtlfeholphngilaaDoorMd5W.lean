/- 10.1: a block's words, byte by byte; a step's choices as the program makes them. -/
import Derived.Test.YtlfeholphngilaaDoorMd5M
namespace Go.Proofs.YtlfeholphngilaaDoor
set_option linter.unusedVariables false

theorem max_bit (i : Nat) : Nat.testBit 4294967295 i = decide (i < 32) := by rw [show 4294967295 = 2^32-1 from rfl]; exact Nat.testBit_two_pow_sub_one 32 i
theorem high_bit {x i : Nat} (h : x < 4294967296) (hi : ¬ i < 32) : x.testBit i = false := Nat.testBit_lt_two_pow (Nat.lt_of_lt_of_le h (by rw [show 4294967296 = 2^32 from rfl]; exact Nat.pow_le_pow_right (by omega) (by omega)))
/-- By each bit of b: that of c, or that of d. -/
theorem sel_eq (b c d : Nat) (hb : b < 4294967296) (hd : d < 4294967296) : (b &&& c) ||| ((4294967295 ^^^ b) &&& d) = d ^^^ (b &&& (c ^^^ d)) := by
  apply Nat.eq_of_testBit_eq
  intro i
  simp only [Nat.testBit_or, Nat.testBit_and, Nat.testBit_xor, max_bit]
  by_cases h : i < 32
  · simp only [h, decide_true]
    cases b.testBit i <;> cases c.testBit i <;> cases d.testBit i <;> rfl
  · simp only [high_bit hb h, high_bit hd h, h]
    rfl
/-- The byte at p, if it is among the first k. -/
def bK (l : List UInt8) (k p : Nat) : Nat := if p < k then (l.getD p 0).toNat else 0
def wordK (l : List UInt8) (k o : Nat) : Nat := bK l k o + bK l k (o + 1) * 256 + bK l k (o + 2) * 65536 + bK l k (o + 3) * 16777216
theorem bK_in {l : List UInt8} {k p : Nat} (h : p < k) : bK l k p = (l.getD p 0).toNat := if_pos h
theorem bK_out {l : List UInt8} {k p : Nat} (h : ¬ p < k) : bK l k p = 0 := if_neg h
theorem byteD_lt (l : List UInt8) (p : Nat) : (l.getD p 0).toNat < 256 := (l.getD p 0).toBitVec.isLt
theorem wordK_zero (l : List UInt8) (o : Nat) : wordK l 0 o = 0 := by
  unfold wordK
  rw [bK_out (by omega), bK_out (by omega), bK_out (by omega), bK_out (by omega)]
theorem wordK_all (l : List UInt8) (k o : Nat) (h : o + 4 ≤ k) : wordK l k o = wordN l o := by
  unfold wordK wordN
  rw [bK_in (by omega), bK_in (by omega), bK_in (by omega), bK_in (by omega)]
theorem bK_succ {l : List UInt8} {k p : Nat} (h : p ≠ k) : bK l (k + 1) p = bK l k p := by
  unfold bK
  by_cases c : p < k
  · rw [if_pos c, if_pos (by omega)]
  · rw [if_neg c, if_neg (by omega)]
theorem wordK_other (l : List UInt8) (k o : Nat) (h : k < o ∨ o + 3 < k) : wordK l (k + 1) o = wordK l k o := by
  unfold wordK
  rw [bK_succ (by omega), bK_succ (by omega), bK_succ (by omega), bK_succ (by omega)]
theorem bK_lt (l : List UInt8) (k p : Nat) : bK l k p < 256 := by
  unfold bK
  split
  · exact byteD_lt l p
  · omega
theorem wordK_lt (l : List UInt8) (k o : Nat) : wordK l k o < 4294967296 := by
  unfold wordK
  have h0 := bK_lt l k o
  have h1 := bK_lt l k (o + 1)
  have h2 := bK_lt l k (o + 2)
  have h3 := bK_lt l k (o + 3)
  omega
theorem join_hi (i x y : Nat) (hx : x < 2 ^ i) : x ||| (y * 2 ^ i) = x + y * 2 ^ i := by
  rw [Nat.or_comm, Nat.mul_comm, ← Nat.two_pow_add_eq_or_of_lt hx]
  omega
/-- One byte more. -/
theorem wordK_step (l : List UInt8) (j t : Nat) (ht : t < 4) : wordK l (4 * j + t) (4 * j) ||| ((l.getD (4 * j + t) 0).toNat * 2 ^ (8 * t) % 4294967296) = wordK l (4 * j + t + 1) (4 * j) := by
  have hb := byteD_lt l (4 * j + t)
  have c : t = 0 ∨ t = 1 ∨ t = 2 ∨ t = 3 := by omega
  unfold wordK
  rcases c with rfl | rfl | rfl | rfl
  · rw [bK_out (k := 4 * j + 0) (p := 4 * j) (by omega), bK_out (k := 4 * j + 0) (p := 4 * j + 1) (by omega), bK_out (k := 4 * j + 0) (p := 4 * j + 2) (by omega), bK_out (k := 4 * j + 0) (p := 4 * j + 3) (by omega),
      bK_in (k := 4 * j + 0 + 1) (p := 4 * j) (by omega), bK_out (k := 4 * j + 0 + 1) (p := 4 * j + 1) (by omega), bK_out (k := 4 * j + 0 + 1) (p := 4 * j + 2) (by omega), bK_out (k := 4 * j + 0 + 1) (p := 4 * j + 3) (by omega)]
    simp only [Nat.add_zero, Nat.mul_zero, Nat.pow_zero, Nat.mul_one] at hb ⊢
    rw [Nat.mod_eq_of_lt (by omega)]
    simp
  · rw [bK_in (k := 4 * j + 1) (p := 4 * j) (by omega), bK_out (k := 4 * j + 1) (p := 4 * j + 1) (by omega), bK_out (k := 4 * j + 1) (p := 4 * j + 2) (by omega), bK_out (k := 4 * j + 1) (p := 4 * j + 3) (by omega),
      bK_in (k := 4 * j + 1 + 1) (p := 4 * j) (by omega), bK_in (k := 4 * j + 1 + 1) (p := 4 * j + 1) (by omega), bK_out (k := 4 * j + 1 + 1) (p := 4 * j + 2) (by omega), bK_out (k := 4 * j + 1 + 1) (p := 4 * j + 3) (by omega)]
    have h0 := byteD_lt l (4 * j)
    rw [Nat.mod_eq_of_lt (by omega), join_hi _ _ _ (by omega)]
    omega
  · rw [bK_in (k := 4 * j + 2) (p := 4 * j) (by omega), bK_in (k := 4 * j + 2) (p := 4 * j + 1) (by omega), bK_out (k := 4 * j + 2) (p := 4 * j + 2) (by omega), bK_out (k := 4 * j + 2) (p := 4 * j + 3) (by omega),
      bK_in (k := 4 * j + 2 + 1) (p := 4 * j) (by omega), bK_in (k := 4 * j + 2 + 1) (p := 4 * j + 1) (by omega), bK_in (k := 4 * j + 2 + 1) (p := 4 * j + 2) (by omega), bK_out (k := 4 * j + 2 + 1) (p := 4 * j + 3) (by omega)]
    have h0 := byteD_lt l (4 * j)
    have h1 := byteD_lt l (4 * j + 1)
    rw [Nat.mod_eq_of_lt (by omega), join_hi _ _ _ (by omega)]
    omega
  · rw [bK_in (k := 4 * j + 3) (p := 4 * j) (by omega), bK_in (k := 4 * j + 3) (p := 4 * j + 1) (by omega), bK_in (k := 4 * j + 3) (p := 4 * j + 2) (by omega), bK_out (k := 4 * j + 3) (p := 4 * j + 3) (by omega),
      bK_in (k := 4 * j + 3 + 1) (p := 4 * j) (by omega), bK_in (k := 4 * j + 3 + 1) (p := 4 * j + 1) (by omega), bK_in (k := 4 * j + 3 + 1) (p := 4 * j + 2) (by omega), bK_in (k := 4 * j + 3 + 1) (p := 4 * j + 3) (by omega)]
    have h0 := byteD_lt l (4 * j)
    have h1 := byteD_lt l (4 * j + 1)
    have h2 := byteD_lt l (4 * j + 2)
    rw [Nat.mod_eq_of_lt (by omega), join_hi _ _ _ (by omega)]
    omega

end Go.Proofs.YtlfeholphngilaaDoor
