/- Capabilities: none is on that there is not, bit by bit. -/
import Derived.Test.YticjmjoiggnblaaDoorLdP
import Derived.Laws.BitsAllLaws
import Derived.Lib.QuoteBits
namespace Go.Proofs.YticjmjoiggnblaaDoor
open Go

/-- A bit that is on and that there is not. -/
def capB (h o j : Nat) : Bool := (o / 2 ^ j % 2 == 1) && (h / 2 ^ j % 2 == 0)
theorem andNot_zero (o h : Nat) (ho : o < 65536) (hh : h < 65536) : (bits .andNot .i64 (o : Int) (h : Int) == 0) = (List.range 16).all fun j => !capB h o j := by
  have e : bits .andNot .i64 (o : Int) (h : Int) = ((o &&& (2 ^ 64 - (h + 1)) : Nat) : Int) := by
    show IntKind.i64.wrap ((BitVec.ofInt 64 (o : Int) &&& ~~~BitVec.ofInt 64 (h : Int)).toNat : Int) = _
    rw [BitVec.toNat_and, BitVec.toNat_not, ofInt_u64 o (by omega), ofInt_u64 h (by omega)]
    have e2 : 2 ^ 64 - 1 - h = 2 ^ 64 - (h + 1) := by omega
    rw [e2]
    have hle : o &&& (2 ^ 64 - (h + 1)) ≤ o := Nat.and_le_left
    exact Lib.wrap_i64_small _ (by omega)
  rw [e]
  have key : (o &&& (2 ^ 64 - (h + 1)) = 0) ↔ ∀ j, j < 16 → capB h o j = false := by
    constructor
    · intro hz j hj
      have t : (o &&& (2 ^ 64 - (h + 1))).testBit j = false := by rw [hz]; exact Nat.zero_testBit j
      rw [Nat.testBit_and, Nat.testBit_two_pow_sub_succ (by omega), Nat.testBit_eq_decide_div_mod_eq, Nat.testBit_eq_decide_div_mod_eq] at t
      have hj64 : decide (j < 64) = true := decide_eq_true (by omega)
      rw [hj64, Bool.true_and] at t
      unfold capB
      by_cases h1 : o / 2 ^ j % 2 = 1
      · by_cases h2 : h / 2 ^ j % 2 = 1
        · simp [h1, h2]
        · simp [h1, h2] at t
      · simp [h1]
    · intro hall
      refine Nat.eq_of_testBit_eq fun j => ?_
      rw [Nat.zero_testBit, Nat.testBit_and, Nat.testBit_two_pow_sub_succ (by omega)]
      by_cases hj : j < 16
      · have := hall j hj
        unfold capB at this
        rw [Nat.testBit_eq_decide_div_mod_eq, Nat.testBit_eq_decide_div_mod_eq]
        by_cases h1 : o / 2 ^ j % 2 = 1
        · by_cases h2 : h / 2 ^ j % 2 = 1
          · simp [h1, h2]
          · have h3 : h / 2 ^ j % 2 = 0 := by omega
            simp [h1, h3] at this
        · simp [h1]
      · have : o.testBit j = false := Nat.testBit_lt_two_pow (Nat.lt_of_lt_of_le (show o < 2 ^ 16 by omega) (Nat.pow_le_pow_right (by decide) (by omega)))
        rw [this, Bool.false_and]
  by_cases hz : o &&& (2 ^ 64 - (h + 1)) = 0
  · rw [hz]
    have := key.1 hz
    symm
    show _ = true
    rw [List.all_eq_true]
    intro j hj
    rw [this j (List.mem_range.1 hj)]
    rfl
  · have h1 : ((o &&& (2 ^ 64 - (h + 1)) : Nat) : Int) ≠ 0 := by omega
    have h2 : (((o &&& (2 ^ 64 - (h + 1)) : Nat) : Int) == 0) = false := by
      rw [Bool.eq_false_iff]
      intro q
      exact h1 (by simpa using q)
    rw [h2]
    symm
    rw [Bool.eq_false_iff]
    intro q
    rw [List.all_eq_true] at q
    refine hz (key.2 fun j hj => ?_)
    have := q j (List.mem_range.2 hj)
    simpa using this

end Go.Proofs.YticjmjoiggnblaaDoor
