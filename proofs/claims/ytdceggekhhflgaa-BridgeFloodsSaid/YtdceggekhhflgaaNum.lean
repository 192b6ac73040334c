/- Numbers as bytes, the most significant first: the plain lists, their cells, their order and what is read back from them. Nothing of the program stands here. -/
import Derived.WalkKit
namespace Go.Proofs.Ytdceggekhhflgaa
open Go.RowKit

/-- X's last n digits to the base 256, the greatest first. -/
def putL (X : Nat) : Nat → List UInt8
  | 0 => []
  | n + 1 => UInt8.ofNat (X / 256 ^ n % 256) :: putL X n

theorem putL_length (X n : Nat) : (putL X n).length = n := by
  induction n with
  | zero => rfl
  | succ n ih => simp [putL, ih]

theorem putL_get (X : Nat) : ∀ (n j : Nat), j < n → (putL X n)[j]? = some (UInt8.ofNat (X / 256 ^ (n - 1 - j) % 256))
  | 0, _, h => by omega
  | n + 1, 0, _ => by simp [putL]
  | n + 1, j + 1, h => by
    have e : n + 1 - 1 - (j + 1) = n - 1 - j := by omega
    rw [e, putL, List.getElem?_cons_succ]
    exact putL_get X n j (by omega)

/-- The cells of the row when k digits are laid, from the end on. -/
def putC (X n k : Nat) : Array Value := ((List.range n).map fun j => Value.int .u8 (if n ≤ k + j then ((X / 256 ^ (n - 1 - j) % 256 : Nat) : Int) else 0)).toArray

theorem putC_size (X n k : Nat) : (putC X n k).size = n := by simp [putC]

theorem putC_get (X n k j : Nat) (h : j < n) : (putC X n k)[j]? = some (Value.int .u8 (if n ≤ k + j then ((X / 256 ^ (n - 1 - j) % 256 : Nat) : Int) else 0)) := by
  simp [putC, h]

theorem putC_zero (X n : Nat) : madeCells #[Value.int .u8 0] n = putC X n 0 := by
  apply Array.ext
  · simp [putC_size, size_madeCells]
  · intro i h1 h2
    have hi : i < n := by simpa [putC_size] using h2
    have e := putC_get X n 0 i hi
    rw [if_neg (by omega)] at e
    have e2 : (putC X n 0)[i] = Value.int .u8 0 := by
      have := Array.getElem?_eq_getElem h2
      rw [this] at e
      exact Option.some.inj e
    rw [e2]
    simp [madeCells, Nat.mod_one]

theorem putC_step (X n k : Nat) (h : k < n) : (putC X n k).setIfInBounds (n - 1 - k) (Value.int .u8 ((X / 256 ^ k % 256 : Nat) : Int)) = putC X n (k + 1) := by
  apply Array.ext
  · simp [putC_size]
  · intro i h1 h2
    have hi : i < n := by simpa [putC_size] using h2
    apply Option.some.inj
    rw [← Array.getElem?_eq_getElem h1, ← Array.getElem?_eq_getElem h2, Array.getElem?_setIfInBounds, putC_get X n (k + 1) i hi, putC_get X n k i hi, putC_size]
    by_cases e : n - 1 - k = i
    · rw [if_pos e, if_pos (by omega), if_pos (by omega), show n - 1 - i = k by omega]
    · rw [if_neg e]
      by_cases c : n ≤ k + i
      · rw [if_pos c, if_pos (by omega)]
      · rw [if_neg c, if_neg (by omega)]

theorem putC_end (X n j : Nat) (h : j < n) : (putC X n n)[j]? = some (Value.int .u8 ((((putL X n)[j]'(by rw [putL_length]; exact h)).toNat : Nat) : Int)) := by
  rw [putC_get X n n j h, if_pos (by omega)]
  have e := putL_get X n j h
  rw [List.getElem?_eq_getElem (by rw [putL_length]; exact h)] at e
  rw [Option.some.inj e, UInt8.toNat_ofNat', Nat.mod_mod]

/-- A shift by 8 k bits. -/
theorem shr_digit (X k : Nat) : X / 2 ^ (8 * k) = X / 256 ^ k := by
  rw [Nat.pow_mul]

/-- The number that bytes are, the most significant first. -/
def beN (l : List UInt8) : Nat := l.foldl (fun x b => x * 256 + b.toNat) 0

theorem beN_snoc (l : List UInt8) (b : UInt8) : beN (l ++ [b]) = beN l * 256 + b.toNat := by simp [beN]

theorem beN_lt (l : List UInt8) : beN l < 256 ^ l.length := by
  have h : ∀ (r : List UInt8) (m : List UInt8), beN m < 256 ^ m.length → beN (m ++ r) < 256 ^ (m ++ r).length := by
    intro r
    induction r with
    | nil => intro m hm; simpa using hm
    | cons b r ih =>
      intro m hm
      have e : m ++ b :: r = (m ++ [b]) ++ r := by simp
      rw [e]
      refine ih (m ++ [b]) ?_
      rw [beN_snoc, List.length_append, List.length_singleton, Nat.pow_succ]
      have := b.toNat_lt
      omega
  have := h l [] (by simp [beN])
  simpa using this

theorem beN_cons (b : UInt8) (l : List UInt8) : beN (b :: l) = b.toNat * 256 ^ l.length + beN l := by
  have h : ∀ (l : List UInt8) (x : Nat), l.foldl (fun x b => x * 256 + b.toNat) x = x * 256 ^ l.length + beN l := by
    intro l
    induction l with
    | nil => intro x; simp [beN]
    | cons c l ih =>
      intro x
      have e := ih (0 * 256 + c.toNat)
      rw [List.foldl_cons, ih, show beN (c :: l) = l.foldl (fun x b => x * 256 + b.toNat) (0 * 256 + c.toNat) from rfl, e, List.length_cons, Nat.pow_succ, Nat.add_mul]
      simp only [Nat.zero_mul, Nat.zero_add]
      rw [Nat.mul_assoc, Nat.mul_comm 256 (256 ^ l.length), Nat.add_assoc]
  have e := h l (0 * 256 + b.toNat)
  rw [show beN (b :: l) = l.foldl (fun x b => x * 256 + b.toNat) (0 * 256 + b.toNat) from rfl, e]
  simp

/-- What was laid down is read back. -/
theorem beN_putL (X n : Nat) : beN (putL X n) = X % 256 ^ n := by
  induction n with
  | zero => simp [putL, beN, Nat.mod_one]
  | succ n ih =>
    rw [putL, beN_cons, putL_length, ih, Nat.mod_pow_succ, UInt8.toNat_ofNat', Nat.mod_mod, Nat.mul_comm, Nat.add_comm]

theorem beN_putL_fits (X n : Nat) (h : X < 256 ^ n) : beN (putL X n) = X := by rw [beN_putL, Nat.mod_eq_of_lt h]

theorem ofNat_lt (a b : Nat) (ha : a < 256) (hb : b < 256) : (UInt8.ofNat a < UInt8.ofNat b) ↔ a < b := by
  rw [UInt8.lt_iff_toNat_lt, UInt8.toNat_ofNat', UInt8.toNat_ofNat', Nat.mod_eq_of_lt ha, Nat.mod_eq_of_lt hb]

theorem ofNat_eq (a b : Nat) (ha : a < 256) (hb : b < 256) : (UInt8.ofNat a = UInt8.ofNat b) ↔ a = b := by
  constructor
  · intro h
    have := congrArg UInt8.toNat h
    rwa [UInt8.toNat_ofNat', UInt8.toNat_ofNat', Nat.mod_eq_of_lt ha, Nat.mod_eq_of_lt hb] at this
  · intro h; rw [h]

/-- The bytes stand in the order of their numbers. -/
theorem less_putL (X Y n : Nat) : Op.bytesLess (putL X n) (putL Y n) = decide (X % 256 ^ n < Y % 256 ^ n) := by
  induction n with
  | zero => simp [putL, Op.bytesLess, Nat.mod_one]
  | succ n ih =>
    have hp : 0 < 256 ^ n := Nat.pow_pos (by omega)
    have a1 := Nat.mod_lt (X / 256 ^ n) (show 0 < 256 by omega)
    have b1 := Nat.mod_lt (Y / 256 ^ n) (show 0 < 256 by omega)
    have a2 := Nat.mod_lt X hp
    have b2 := Nat.mod_lt Y hp
    rw [putL, putL, Op.bytesLess, ih, Nat.mod_pow_succ, Nat.mod_pow_succ]
    generalize X / 256 ^ n % 256 = a at *
    generalize Y / 256 ^ n % 256 = b at *
    generalize X % 256 ^ n = u at *
    generalize Y % 256 ^ n = v at *
    generalize 256 ^ n = p at *
    rw [Bool.eq_iff_iff]
    simp only [Bool.or_eq_true, Bool.and_eq_true, decide_eq_true_eq, beq_iff_eq, ofNat_lt a b a1 b1, ofNat_eq a b a1 b1]
    rcases Nat.lt_trichotomy a b with h | h | h
    · have : p * (a + 1) ≤ p * b := Nat.mul_le_mul_left p h
      rw [Nat.mul_add, Nat.mul_one] at this
      constructor
      · intro _; omega
      · intro _; exact Or.inl h
    · subst h
      constructor
      · rintro (h | ⟨_, h⟩)
        · omega
        · omega
      · intro h; exact Or.inr ⟨rfl, by omega⟩
    · have : p * (b + 1) ≤ p * a := Nat.mul_le_mul_left p h
      rw [Nat.mul_add, Nat.mul_one] at this
      constructor
      · rintro (h' | ⟨h', _⟩)
        · omega
        · omega
      · intro h'; omega

theorem less_putL_fits (X Y n : Nat) (hx : X < 256 ^ n) (hy : Y < 256 ^ n) : Op.bytesLess (putL X n) (putL Y n) = decide (X < Y) := by
  rw [less_putL, Nat.mod_eq_of_lt hx, Nat.mod_eq_of_lt hy]

theorem putL_inj (X Y n : Nat) (hx : X < 256 ^ n) (hy : Y < 256 ^ n) (h : putL X n = putL Y n) : X = Y := by
  rw [← beN_putL_fits X n hx, ← beN_putL_fits Y n hy, h]

/-- What the test 'x>>(8*n) != 0' says. -/
theorem fits_of (X n : Nat) (h : ((X : Int) / 2 ^ (8 * n) != 0) = false) : X < 256 ^ n := by
  have h0 : (X : Int) / 2 ^ (8 * n) = 0 := by simpa using h
  have h1 : X / 2 ^ (8 * n) = 0 := by
    have e : ((X / 2 ^ (8 * n) : Nat) : Int) = (X : Int) / 2 ^ (8 * n) := by simp
    omega
  rw [shr_digit] at h1
  exact Nat.lt_of_div_eq_zero (Nat.pow_pos (by omega)) h1

theorem fits_to (X n : Nat) (h : X < 256 ^ n) : ((X : Int) / 2 ^ (8 * n) != 0) = false := by
  have h1 : X / 256 ^ n = 0 := Nat.div_eq_of_lt h
  rw [← shr_digit] at h1
  have e : ((X / 2 ^ (8 * n) : Nat) : Int) = (X : Int) / 2 ^ (8 * n) := by simp
  rw [← e, h1]
  rfl

theorem fits_not (X n : Nat) (h : ¬ X < 256 ^ n) : ((X : Int) / 2 ^ (8 * n) != 0) = true := by
  cases hc : ((X : Int) / 2 ^ (8 * n) != 0)
  · exact absurd (fits_of X n hc) h
  · rfl

/-- 'x<<8 | b' on uint64, x below 2^56. -/
theorem or_step (X : Nat) (b : UInt8) (h : X < 72057594037927936) : bits BinOp.or IntKind.u64 (IntKind.u64.wrap ((X : Int) * 256)) (IntKind.u64.wrap (b.toNat : Int)) = ((X * 256 + b.toNat : Nat) : Int) := by
  have hb := b.toNat_lt
  have e1 : IntKind.u64.wrap ((X : Int) * 256) = ((X * 256 : Nat) : Int) := by rw [IntKind.wrap_u64]; omega
  have e2 : IntKind.u64.wrap (b.toNat : Int) = ((b.toNat : Nat) : Int) := by rw [IntKind.wrap_u64]; omega
  rw [e1, e2, u64_or_nat _ _ (by omega) (by omega)]
  have e3 := Nat.two_pow_add_eq_or_of_lt (i := 8) (b := b.toNat) (by omega) X
  rw [show X * 256 = 2 ^ 8 * X by omega, ← e3]

theorem take_snoc (l : List UInt8) (k : Nat) (h : k < l.length) : l.take (k + 1) = l.take k ++ [l[k]] := by
  rw [List.take_succ_eq_append_getElem h]


end Go.Proofs.Ytdceggekhhflgaa
