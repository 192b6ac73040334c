/- More of numbers as bytes: what the reference's way comes to. Nothing of the program stands here. -/
import Derived.Test.YtjoepmfineinfaaDoorNum
import Derived.Lib.TrimByte
namespace Go.Proofs.YtjoepmfineinfaaDoor
open Go.RowKit

theorem putL_append (X a b : Nat) : putL X (a + b) = putL (X / 256 ^ b) a ++ putL X b := by
  induction a with
  | zero => simp [putL]
  | succ a ih =>
    rw [show a + 1 + b = (a + b) + 1 by omega, putL, ih, putL, Nat.div_div_eq_div_mul, ← Nat.pow_add, Nat.add_comm b a]
    rfl

theorem putL_take (X m n : Nat) (h : n ≤ m) : (putL X m).take (m - n) = putL (X / 256 ^ n) (m - n) := by
  have e := putL_append X (m - n) n
  rw [show m - n + n = m by omega] at e
  rw [e, List.take_left' (putL_length _ _)]

theorem putL_drop (X m n : Nat) (h : n ≤ m) : (putL X m).drop (m - n) = putL X n := by
  have e := putL_append X (m - n) n
  rw [show m - n + n = m by omega] at e
  rw [e, List.drop_left' (putL_length _ _)]

theorem beN_zero (l : List UInt8) (h : ∀ b ∈ l, b = 0) : beN l = 0 := by
  induction l with
  | nil => rfl
  | cons b l ih =>
    rw [beN_cons, ih (fun c hc => h c (List.mem_cons_of_mem _ hc)), h b List.mem_cons_self]
    simp

theorem putL_zero (n : Nat) : ∀ b ∈ putL 0 n, b = 0 := by
  induction n with
  | zero => intro b hb; cases hb
  | succ n ih =>
    intro b hb
    rw [putL] at hb
    rcases List.mem_cons.1 hb with rfl | hb
    · simp
    · exact ih b hb

theorem drop_nil_iff (l : List UInt8) : l.dropWhile (· == 0) = [] ↔ ∀ b ∈ l, b = 0 := by
  induction l with
  | nil => simp
  | cons b l ih =>
    cases hb : (b == 0) with
    | true =>
      have e : b = 0 := beq_iff_eq.1 hb
      rw [show (b :: l).dropWhile (· == 0) = l.dropWhile (· == 0) by simp only [List.dropWhile, hb], ih]
      simp [e]
    | false =>
      have e : b ≠ 0 := fun q => by rw [q] at hb; cases hb
      rw [show (b :: l).dropWhile (· == 0) = b :: l by simp only [List.dropWhile, hb]]
      constructor
      · intro h; cases h
      · intro h; exact absurd (h b List.mem_cons_self) e

theorem drop_head (l : List UInt8) : l.dropWhile (· == 0) = [] ∨ ∃ b r, l.dropWhile (· == 0) = b :: r ∧ b ≠ 0 := by
  induction l with
  | nil => exact Or.inl rfl
  | cons b l ih =>
    cases hb : (b == 0) with
    | true => rw [show (b :: l).dropWhile (· == 0) = l.dropWhile (· == 0) by simp only [List.dropWhile, hb]]; exact ih
    | false => exact Or.inr ⟨b, l, by simp only [List.dropWhile, hb], fun q => by rw [q] at hb; cases hb⟩

theorem trim_nil_iff (l : List UInt8) : Lib.trimB l 0 = [] ↔ ∀ b ∈ l, b = 0 := by
  show ((l.reverse.dropWhile (· == 0)).reverse).dropWhile (· == 0) = [] ↔ _
  rw [drop_nil_iff]
  constructor
  · intro h
    rcases drop_head l.reverse with h0 | ⟨b, r, h0, hb⟩
    · intro b hb
      exact (drop_nil_iff l.reverse).1 h0 b (List.mem_reverse.2 hb)
    · exact absurd (h b (by rw [h0]; simp)) hb
  · intro h b hb
    have h0 : l.reverse.dropWhile (· == 0) = [] := (drop_nil_iff l.reverse).2 fun c hc => h c (List.mem_reverse.1 hc)
    rw [h0] at hb
    cases hb

/-- Whether a number has more than n of its m bytes: what stands ahead of the last n is trimmed away. -/
theorem trim_fits (X m n : Nat) (h : n ≤ m) (hX : X < 256 ^ m) : Lib.trimB ((putL X m).take (m - n)) 0 = [] ↔ X < 256 ^ n := by
  rw [putL_take X m n h, trim_nil_iff]
  have hp : 0 < 256 ^ n := Nat.pow_pos (by omega)
  constructor
  · intro h0
    have h1 := beN_zero _ h0
    rw [beN_putL_fits _ _ (Nat.div_lt_of_lt_mul (by rw [← Nat.pow_add, show n + (m - n) = m by omega]; exact hX))] at h1
    exact Nat.lt_of_div_eq_zero hp h1
  · intro h0
    rw [Nat.div_eq_of_lt h0]
    exact putL_zero _

end Go.Proofs.YtjoepmfineinfaaDoor
