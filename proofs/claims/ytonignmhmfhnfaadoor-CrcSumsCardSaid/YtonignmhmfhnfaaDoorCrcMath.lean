/- Sums by shifting: plain numbers and lists, nothing of the program. -/
namespace Go.Proofs.YtonignmhmfhnfaaDoor

/-- What is brought in where a 1 falls out. -/
def cP : Nat := 3988292384
/-- All thirty-two bits. -/
def cM : Nat := 4294967295

/-- One bit falls out. -/
def cstep (r : Nat) : Nat := if r % 2 = 1 then (r / 2) ^^^ cP else r / 2

def csteps : Nat → Nat → Nat
  | 0, r => r
  | n + 1, r => csteps n (cstep r)

theorem xor_half (a b : Nat) : (a ^^^ b) / 2 = (a / 2) ^^^ (b / 2) := by
  have := Nat.shiftRight_xor_distrib (a := a) (b := b) (i := 1)
  simpa [Nat.shiftRight_succ] using this

theorem xor_par (a b : Nat) : (a ^^^ b) % 2 = (a % 2 + b % 2) % 2 := by
  have h := Nat.testBit_xor a b 0
  simp only [Nat.testBit_zero] at h
  rcases Nat.mod_two_eq_zero_or_one a with ha | ha <;> rcases Nat.mod_two_eq_zero_or_one b with hb | hb <;> rcases Nat.mod_two_eq_zero_or_one (a ^^^ b) with hc | hc <;> simp_all

theorem cstep_xor (a b : Nat) : cstep (a ^^^ b) = cstep a ^^^ cstep b := by
  have hp := xor_par a b
  unfold cstep
  rw [xor_half]
  rcases Nat.mod_two_eq_zero_or_one a with ha | ha <;> rcases Nat.mod_two_eq_zero_or_one b with hb | hb
  · rw [if_neg (by omega), if_neg (by omega), if_neg (by omega)]
  · rw [if_pos (by omega), if_neg (by omega), if_pos (by omega), Nat.xor_assoc]
  · rw [if_pos (by omega), if_pos (by omega), if_neg (by omega), Nat.xor_assoc, Nat.xor_assoc, Nat.xor_comm (b / 2)]
  · rw [if_neg (by omega), if_pos (by omega), if_pos (by omega)]
    rw [show (a / 2 ^^^ cP) ^^^ (b / 2 ^^^ cP) = (a / 2 ^^^ b / 2) ^^^ (cP ^^^ cP) by ac_rfl, Nat.xor_self, Nat.xor_zero]

theorem csteps_xor : ∀ (n a b : Nat), csteps n (a ^^^ b) = csteps n a ^^^ csteps n b
  | 0, _, _ => rfl
  | n + 1, a, b => by rw [csteps, csteps, csteps, cstep_xor, csteps_xor n]

theorem csteps_add : ∀ (n m r : Nat), csteps (n + m) r = csteps m (csteps n r)
  | 0, m, r => by simp [csteps]
  | n + 1, m, r => by rw [show n + 1 + m = (n + m) + 1 by omega, csteps, csteps, csteps_add n]

theorem cstep_even (x : Nat) : cstep (2 * x) = x := by
  unfold cstep
  rw [if_neg (by omega)]
  omega

theorem csteps_shift : ∀ (n x : Nat), csteps n (2 ^ n * x) = x
  | 0, x => by simp [csteps]
  | n + 1, x => by rw [csteps, show 2 ^ (n + 1) * x = 2 * (2 ^ n * x) by rw [Nat.pow_succ]; ac_rfl, cstep_even, csteps_shift n]

theorem cstep_zero : cstep 0 = 0 := rfl
theorem csteps_zero : ∀ n, csteps n 0 = 0
  | 0 => rfl
  | n + 1 => by rw [csteps, cstep_zero, csteps_zero n]

theorem cstep_lt {r : Nat} (h : r < 2 ^ 32) : cstep r < 2 ^ 32 := by
  unfold cstep
  split
  · exact Nat.xor_lt_two_pow (by omega) (by decide)
  · omega

theorem csteps_lt : ∀ (n : Nat) {r : Nat}, r < 2 ^ 32 → csteps n r < 2 ^ 32
  | 0, _, h => h
  | n + 1, _, h => csteps_lt n (cstep_lt h)

theorem xor_eq_zero {a b : Nat} (h : a ^^^ b = 0) : a = b := by
  have e : (a ^^^ b) ^^^ b = a := by rw [Nat.xor_assoc, Nat.xor_self, Nat.xor_zero]
  rw [← e, h, Nat.zero_xor]

theorem cstep_none {r : Nat} (h : r < 2 ^ 32) (h0 : cstep r = 0) : r = 0 := by
  unfold cstep at h0
  split at h0
  · have := xor_eq_zero h0
    simp only [cP] at this
    omega
  · omega

theorem csteps_none : ∀ (n : Nat) {r : Nat}, r < 2 ^ 32 → csteps n r = 0 → r = 0
  | 0, _, _, h => h
  | n + 1, _, h, h0 => cstep_none h (csteps_none n (cstep_lt h) h0)

theorem csteps_inj (n : Nat) {a b : Nat} (ha : a < 2 ^ 32) (hb : b < 2 ^ 32) (h : csteps n a = csteps n b) : a = b := by
  refine xor_eq_zero (csteps_none n (Nat.xor_lt_two_pow ha hb) ?_)
  rw [csteps_xor, h, Nat.xor_self]

/-! ### Bytes, the least first -/

def leV : List UInt8 → Nat
  | [] => 0
  | b :: l => b.toNat + 256 * leV l

theorem add_is_xor (x y : Nat) (h : x < 256) : x + 256 * y = x ^^^ (256 * y) := by
  have h1 : 256 * y + x = 256 * y ||| x := by
    have := Nat.two_pow_add_eq_or_of_lt (i := 8) (b := x) h y
    simpa using this
  apply Nat.eq_of_testBit_eq
  intro i
  rw [Nat.add_comm, h1, Nat.testBit_or, Nat.testBit_xor]
  by_cases hi : i < 8
  · have : (256 * y).testBit i = false := by
      rw [show 256 * y = 2 ^ 8 * y from rfl, Nat.testBit_two_pow_mul]
      simp; omega
    rw [this]; simp
  · have : x.testBit i = false := Nat.testBit_lt_two_pow (Nat.lt_of_lt_of_le h (show 2 ^ 8 ≤ 2 ^ i from Nat.pow_le_pow_right (by decide) (by omega)))
    rw [this]; simp

/-- One byte is fed. -/
def cbyte (r b : Nat) : Nat := csteps 8 (r ^^^ b)
def cfeed (r : Nat) (l : List UInt8) : Nat := l.foldl (fun r b => cbyte r b.toNat) r

theorem cfeed_cons (r : Nat) (b : UInt8) (l : List UInt8) : cfeed r (b :: l) = cfeed (cbyte r b.toNat) l := rfl
theorem cfeed_append (r : Nat) (l m : List UInt8) : cfeed r (l ++ m) = cfeed (cfeed r l) m := by simp [cfeed]

/-- Bytes fed one by one are a number fed at once. -/
theorem cfeed_leV : ∀ (l : List UInt8) (r : Nat), cfeed r l = csteps (8 * l.length) (r ^^^ leV l)
  | [], r => by simp [cfeed, leV, csteps]
  | b :: l, r => by
    rw [cfeed_cons, cfeed_leV l, leV, add_is_xor _ _ b.toNat_lt, List.length_cons, show 8 * (l.length + 1) = 8 + 8 * l.length by omega, csteps_add, ← Nat.xor_assoc, csteps_xor 8, show 256 * leV l = 2 ^ 8 * leV l from rfl, csteps_shift]
    rfl

theorem cbyte_lt {r : Nat} (b : UInt8) (h : r < 2 ^ 32) : cbyte r b.toNat < 2 ^ 32 :=
  csteps_lt 8 (Nat.xor_lt_two_pow h (Nat.lt_trans b.toNat_lt (by decide)))

theorem cfeed_lt : ∀ (l : List UInt8) {r : Nat}, r < 2 ^ 32 → cfeed r l < 2 ^ 32
  | [], _, h => h
  | b :: l, _, h => cfeed_lt l (cbyte_lt b h)

/-- The sum of a text. -/
def csum (l : List UInt8) : Nat := cfeed cM l ^^^ cM

theorem csum_lt (l : List UInt8) : csum l < 2 ^ 32 := Nat.xor_lt_two_pow (cfeed_lt l (by decide)) (by decide)

/-- A sum in four bytes. -/
def le4 (n : Nat) : List UInt8 := [UInt8.ofNat n, UInt8.ofNat (n / 256), UInt8.ofNat (n / 65536), UInt8.ofNat (n / 16777216)]

theorem leV_le4 {n : Nat} (h : n < 2 ^ 32) : leV (le4 n) = n := by
  simp [leV, le4]
  omega

theorem le4_leV {q : List UInt8} (h : q.length = 4) : le4 (leV q) = q := by
  match q, h with
  | [a, b, c, d], _ =>
    have ha := a.toNat_lt
    have hb := b.toNat_lt
    have hc := c.toNat_lt
    have hd := d.toNat_lt
    simp only [leV, le4, Nat.mul_zero, Nat.add_zero, List.cons.injEq, and_true]
    refine ⟨?_, ?_, ?_, ?_⟩ <;> (apply UInt8.toNat_inj.1; simp; try omega)

theorem leV_lt : ∀ (l : List UInt8), leV l < 256 ^ l.length
  | [] => by decide
  | b :: l => by
    have h1 := leV_lt l
    have h2 := b.toNat_lt
    rw [leV, List.length_cons, Nat.pow_succ]
    omega

/-- What a sealed text leaves is always the same; and nothing else leaves it. -/
theorem sealed_iff (t q : List UInt8) (hq : q.length = 4) : q = le4 (csum t) ↔ cfeed cM (t ++ q) = csteps 32 cM := by
  have hR : cfeed cM t < 2 ^ 32 := cfeed_lt t (by decide)
  have hw : leV q < 2 ^ 32 := by have := leV_lt q; rw [hq] at this; exact this
  rw [cfeed_append, cfeed_leV q, hq]
  constructor
  · intro h
    rw [h, leV_le4 (csum_lt t), csum, ← Nat.xor_assoc, Nat.xor_self, Nat.zero_xor]
  · intro h
    have h1 := csteps_inj 32 (Nat.xor_lt_two_pow hR hw) (by decide) h
    have h2 : leV q = csum t := by
      have h3 : leV q = cfeed cM t ^^^ (cfeed cM t ^^^ leV q) := by rw [← Nat.xor_assoc, Nat.xor_self, Nat.zero_xor]
      rw [h1] at h3
      exact h3
    rw [← h2, le4_leV hq]

/-- Where a nonzero number below 2 ^ 32 is brought in anywhere, what is left turns. -/
theorem bent (n at_ v : Nat) (r x : Nat) (hv : v < 2 ^ 32) (ha : at_ ≤ n) : csteps n (r ^^^ (x ^^^ (2 ^ at_ * v))) = csteps n (r ^^^ x) ↔ v = 0 := by
  rw [← Nat.xor_assoc, csteps_xor n (r ^^^ x)]
  have e : csteps n (2 ^ at_ * v) = csteps (n - at_) v := by
    conv => lhs; rw [show n = at_ + (n - at_) by omega]
    rw [csteps_add, csteps_shift]
  rw [e]
  constructor
  · intro h
    refine csteps_none (n - at_) hv ?_
    have := congrArg (fun y => csteps n (r ^^^ x) ^^^ y) h
    simpa [← Nat.xor_assoc] using this
  · intro h
    rw [h, csteps_zero, Nat.xor_zero]
end Go.Proofs.YtonignmhmfhnfaaDoor
