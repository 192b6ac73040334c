/- Sums by shifting: bits turned, texts brought together, a long division bit by bit: plain numbers and lists, nothing of the program. -/
import Derived.Test.YtonignmhmfhnfaaDoorCrcMath
namespace Go.Proofs.YtonignmhmfhnfaaDoor

theorem pow_mul_xor (n a b : Nat) : 2 ^ n * (a ^^^ b) = (2 ^ n * a) ^^^ (2 ^ n * b) := by
  have h := Nat.shiftLeft_xor_distrib (a := a) (b := b) (i := n)
  simp only [Nat.shiftLeft_eq] at h
  rw [Nat.mul_comm, h, Nat.mul_comm a, Nat.mul_comm b]

/-- A byte is replaced. -/
theorem leV_set : ∀ (l : List UInt8) (j : Nat) (hj : j < l.length) (c : UInt8) (d : Nat), d < 256 → c.toNat = (l[j]).toNat ^^^ d → leV (l.set j c) = leV l ^^^ (2 ^ (8 * j) * d)
  | b :: l, 0, _, c, d, hd, hc => by
    have hc' : c.toNat = b.toNat ^^^ d := hc
    rw [List.set_cons_zero, leV, leV, hc', add_is_xor _ _ (Nat.xor_lt_two_pow (n := 8) b.toNat_lt hd), add_is_xor _ _ b.toNat_lt, show 2 ^ (8 * 0) * d = d by simp]
    ac_rfl
  | b :: l, j + 1, hj, c, d, hd, hc => by
    rw [List.set_cons_succ, leV, leV, leV_set l j (by simpa using hj) c d hd (by simpa using hc), add_is_xor _ _ b.toNat_lt, add_is_xor _ _ b.toNat_lt, show (256 : Nat) * (leV l ^^^ (2 ^ (8 * j) * d)) = 2 ^ 8 * (leV l ^^^ (2 ^ (8 * j) * d)) from rfl, pow_mul_xor, ← Nat.mul_assoc, ← Nat.pow_add, show 8 + 8 * j = 8 * (j + 1) by omega, ← Nat.xor_assoc]

/-- Texts brought together bit by bit. -/
theorem leV_xor : ∀ (l m x : List UInt8), l.length = x.length → m.length = x.length → (∀ j (h1 : j < x.length) (h2 : j < l.length) (h3 : j < m.length), (x[j]).toNat = (l[j]).toNat ^^^ (m[j]).toNat) → leV x = leV l ^^^ leV m
  | [], [], [], _, _, _ => rfl
  | _ :: _, _, [], h, _, _ => by simp at h
  | [], _, _ :: _, h, _, _ => by simp at h
  | _, _ :: _, [], _, h, _ => by simp at h
  | _, [], _ :: _, _, h, _ => by simp at h
  | a :: l, b :: m, c :: x, hl, hm, h => by
    have h0 : c.toNat = a.toNat ^^^ b.toNat := h 0 (by simp) (by simp) (by simp)
    have hi := leV_xor l m x (by simpa using hl) (by simpa using hm) (fun j h1 h2 h3 => h (j + 1) (by simpa using h1) (by simpa using h2) (by simpa using h3))
    rw [leV, leV, leV, hi, h0, add_is_xor _ _ (Nat.xor_lt_two_pow (n := 8) a.toNat_lt b.toNat_lt), add_is_xor _ _ a.toNat_lt, add_is_xor _ _ b.toNat_lt, show (256 : Nat) * (leV l ^^^ leV m) = 2 ^ 8 * (leV l ^^^ leV m) from rfl, pow_mul_xor]
    ac_rfl

/-- The sum of three texts brought together. -/
theorem csum_three (a b c x : List UInt8) (ha : a.length = x.length) (hb : b.length = x.length) (hc : c.length = x.length) (h : leV x = leV a ^^^ leV b ^^^ leV c) : csum x = csum a ^^^ csum b ^^^ csum c := by
  unfold csum
  rw [cfeed_leV, cfeed_leV, cfeed_leV, cfeed_leV, ha, hb, hc, h]
  have e : cM ^^^ (leV a ^^^ leV b ^^^ leV c) = (cM ^^^ leV a) ^^^ (cM ^^^ leV b) ^^^ (cM ^^^ leV c) := by
    rw [show (cM ^^^ leV a) ^^^ (cM ^^^ leV b) ^^^ (cM ^^^ leV c) = (cM ^^^ cM) ^^^ (cM ^^^ (leV a ^^^ leV b ^^^ leV c)) by ac_rfl, Nat.xor_self, Nat.zero_xor]
  rw [e, csteps_xor, csteps_xor]
  generalize csteps (8 * x.length) (cM ^^^ leV a) = A
  generalize csteps (8 * x.length) (cM ^^^ leV b) = B
  generalize csteps (8 * x.length) (cM ^^^ leV c) = C
  rw [show (A ^^^ cM) ^^^ (B ^^^ cM) ^^^ (C ^^^ cM) = (cM ^^^ cM) ^^^ (A ^^^ B ^^^ C ^^^ cM) by ac_rfl, Nat.xor_self, Nat.zero_xor]

/-- The sum of a sealed text is always the same. -/
theorem csum_sealed (t : List UInt8) : csum (t ++ le4 (csum t)) = csteps 32 cM ^^^ cM := by
  unfold csum
  rw [show cfeed cM (t ++ le4 (cfeed cM t ^^^ cM)) = csteps 32 cM from (sealed_iff t _ rfl).1 rfl]

/-- A text is sealed. -/
def sealedB (s : List UInt8) : Bool := s.drop (s.length - 4) == le4 (csum (s.take (s.length - 4)))

theorem sealedB_iff (s : List UInt8) (h : 4 ≤ s.length) : sealedB s = true ↔ csteps (8 * s.length) (cM ^^^ leV s) = csteps 32 cM := by
  have hd : (s.drop (s.length - 4)).length = 4 := by rw [List.length_drop]; omega
  unfold sealedB
  rw [beq_iff_eq, sealed_iff _ _ hd, List.take_append_drop, cfeed_leV]

/-- Bits turned within thirty-two in a row of a sealed text are told. -/
theorem bent_told (s s' : List UInt8) (at_ v : Nat) (h : 4 ≤ s.length) (hl : s'.length = s.length) (hv : v < 2 ^ 32) (ha : at_ ≤ 8 * s.length) (hs : sealedB s = true) (he : leV s' = leV s ^^^ (2 ^ at_ * v)) :
    sealedB s' = decide (v = 0) := by
  have h1 := (sealedB_iff s h).1 hs
  have h2 := sealedB_iff s' (by omega)
  rw [hl, he, ← h1, bent _ _ _ _ _ hv ha] at h2
  rw [Bool.eq_iff_iff, h2, decide_eq_true_iff]

theorem mod_succ_xor (x i : Nat) : x % 2 ^ (i + 1) = (x % 2 ^ i) ^^^ (if x.testBit i then 2 ^ i else 0) := by
  apply Nat.eq_of_testBit_eq
  intro j
  rw [Nat.testBit_xor, Nat.testBit_mod_two_pow, Nat.testBit_mod_two_pow]
  by_cases hj : j = i
  · subst hj
    by_cases hb : x.testBit j
    · simp [hb]
    · simp [hb]
  · have h1 : (if x.testBit i then 2 ^ i else 0).testBit j = false := by
      split
      · rw [Nat.testBit_two_pow]; simp; omega
      · simp
    rw [h1]
    by_cases h2 : j < i
    · simp [h2]; omega
    · simp [h2]; omega

/-- What a step makes of the bits. -/
theorem cstep_bit (x k : Nat) : (cstep x).testBit k = (x.testBit (k + 1) ^^ (decide (x % 2 = 1) && cP.testBit k)) := by
  unfold cstep
  have e : (x / 2).testBit k = x.testBit (k + 1) := by rw [Nat.testBit_succ]
  split
  · rename_i h
    rw [Nat.testBit_xor, e]
    simp [h]
  · rename_i h
    rw [e]
    simp [h]

theorem csteps_succ (n r : Nat) : csteps (n + 1) r = cstep (csteps n r) := by
  rw [csteps_add n 1]
  rfl
end Go.Proofs.YtonignmhmfhnfaaDoor
