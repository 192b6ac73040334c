/- Numerals: plain lists, nothing of the program. -/
import Derived.Lib.AtoiTie
import Derived.Lib.IndexMore
import Derived.Lib.ItoaNum
namespace Go.Proofs.YtceiiolpggolbaaDoor

theorem digit_byte : ∀ u, u < 10 → 48 ≤ (UInt8.ofNat (48 + u)).toNat ∧ (UInt8.ofNat (48 + u)).toNat ≤ 57 ∧ (UInt8.ofNat (48 + u)).toNat - 48 = u := by decide

theorem decDigits_bytes (u : Nat) : ∀ b ∈ Lib.decDigits u, 48 ≤ b.toNat ∧ b.toNat ≤ 57 := by
  induction u using Nat.strongRecOn with
  | _ u ih =>
    intro b hb
    rw [Lib.decDigits] at hb
    by_cases h : u < 10
    · rw [dif_pos h] at hb
      simp only [List.mem_singleton] at hb
      subst hb
      exact ⟨(digit_byte u h).1, (digit_byte u h).2.1⟩
    · rw [dif_neg h] at hb
      rcases List.mem_append.1 hb with hb | hb
      · exact ih (u / 10) (by omega) b hb
      · simp only [List.mem_singleton] at hb
        subst hb
        exact ⟨(digit_byte (u % 10) (by omega)).1, (digit_byte (u % 10) (by omega)).2.1⟩

theorem decFrom_append : ∀ (l r : List UInt8) (acc n : Nat), Lib.decFrom acc l = some n → Lib.decFrom acc (l ++ r) = Lib.decFrom n r
  | [], r, acc, n, h => by simp [Lib.decFrom] at h; subst h; rfl
  | b :: l, r, acc, n, h => by
    rw [List.cons_append, Lib.decFrom]
    rw [Lib.decFrom] at h
    cases hd : Lib.digitVal b with
    | none => rw [hd] at h; cases h
    | some d =>
      rw [hd] at h
      exact decFrom_append l r _ n h

theorem digitVal_byte (u : Nat) (h : u < 10) : Lib.digitVal (UInt8.ofNat (48 + u)) = some u := by
  obtain ⟨h1, h2, h3⟩ := digit_byte u h
  rw [Lib.digitVal, if_pos ⟨h1, h2⟩, h3]

theorem decFrom_digits (u : Nat) : Lib.decFrom 0 (Lib.decDigits u) = some u := by
  induction u using Nat.strongRecOn with
  | _ u ih =>
    rw [Lib.decDigits]
    by_cases h : u < 10
    · rw [dif_pos h, Lib.decFrom, digitVal_byte u h]
      simp [Lib.decFrom]
    · rw [dif_neg h, decFrom_append _ _ _ _ (ih (u / 10) (by omega)), Lib.decFrom, digitVal_byte (u % 10) (by omega)]
      simp only [Lib.decFrom, Option.some.injEq]
      omega

theorem decDigits_ne (u : Nat) : Lib.decDigits u ≠ [] := by
  intro h
  have := Lib.decDigits_length u
  have := Lib.nDigits_pos u
  rw [h] at *
  simp at *
  omega

theorem atoi_digits (u : Nat) : Lib.atoi (Lib.decDigits u) = some (u : Int) := by
  have hb := decDigits_bytes u
  have hd := decFrom_digits u
  have hn := decDigits_ne u
  match hl : Lib.decDigits u, hn with
  | b :: r, _ =>
    rw [hl] at hb hd
    have h1 := hb b (by simp)
    have e1 : (b == 45) = false := by
      rw [beq_eq_false_iff_ne]; rintro rfl; exact absurd h1.1 (by decide)
    have e2 : (b == 43) = false := by
      rw [beq_eq_false_iff_ne]; rintro rfl; exact absurd h1.1 (by decide)
    simp [Lib.atoi, e1, e2, Lib.decNat, hd]

theorem nDigits_four (u : Nat) (h : u < 10000) : Lib.nDigits u ≤ 4 := by
  by_cases h1 : u < 10
  · rw [Lib.nDigits_small h1]; omega
  rw [Lib.nDigits_big h1]
  by_cases h2 : u / 10 < 10
  · rw [Lib.nDigits_small h2]; omega
  rw [Lib.nDigits_big h2]
  by_cases h3 : u / 10 / 10 < 10
  · rw [Lib.nDigits_small h3]; omega
  rw [Lib.nDigits_big h3, Lib.nDigits_small (by omega)]
  omega

theorem itoa_nat (u : Nat) : Lib.itoa (u : Int) = Lib.decDigits u := by
  unfold Lib.itoa
  rw [if_neg (by omega)]
  simp

/-- What Atoi says at a text, whether or not it has an error. -/
def atoiV (l : List UInt8) : Int := match Lib.atoiAll l with
  | .ok v => v
  | .range => Lib.atoiSat l
  | _ => 0

theorem atoiV_itoa (v : Int) (h0 : 0 ≤ v) (h1 : v ≤ 4094) : atoiV (Lib.itoa v) = v := by
  obtain ⟨u, rfl⟩ := Int.eq_ofNat_of_zero_le h0
  have hl : (Lib.decDigits u).length ≤ 18 := by
    rw [Lib.decDigits_length]
    have := nDigits_four u (by omega)
    omega
  have e : Lib.atoiAll (Lib.decDigits u) = .ok (u : Int) := by rw [Lib.atoiAll_short _ hl, atoi_digits]; rfl
  rw [itoa_nat, atoiV, e]

theorem itoa_length (v : Int) (h0 : 0 ≤ v) (h1 : v ≤ 4094) : (Lib.itoa v).length ≤ 4 := by
  obtain ⟨u, rfl⟩ := Int.eq_ofNat_of_zero_le h0
  rw [itoa_nat, Lib.decDigits_length]
  exact nDigits_four u (by omega)

theorem itoa_one (p : Int) (h0 : 0 ≤ p) (h1 : p ≤ 7) : Lib.itoa p = [UInt8.ofNat (48 + p.toNat)] := by
  obtain ⟨u, rfl⟩ := Int.eq_ofNat_of_zero_le h0
  rw [itoa_nat, Lib.decDigits_one (by omega)]
  rfl

theorem index_dot : ∀ (p q : List UInt8), (∀ b ∈ p, b ≠ 46) → Lib.index (p ++ 46 :: q) [46] = p.length
  | [], q, _ => by unfold Lib.index; simp
  | b :: p, q, h => by
    have ih := index_dot p q (fun c hc => h c (List.mem_cons_of_mem _ hc))
    have hb := h b (by simp)
    rw [List.cons_append]
    unfold Lib.index
    rw [ih]
    have e : List.isPrefixOf [46] (b :: (p ++ 46 :: q)) = false := by
      simp only [List.isPrefixOf, Bool.and_true, beq_eq_false_iff_ne]
      exact fun q => hb q.symm
    have e2 : ((p.length : Int) == -1) = false := by rw [beq_eq_false_iff_ne]; omega
    simp [e, e2]

theorem cut_dot (p q : List UInt8) (h : ∀ b ∈ p, b ≠ 46) : Lib.cut (p ++ 46 :: q) [46] = (p, q, true) := by
  unfold Lib.cut
  rw [index_dot p q h, if_pos (by omega)]
  simp [List.drop_append]

end Go.Proofs.YtceiiolpggolbaaDoor
