/- 13.1: records plainly: how they are read. -/
import Derived.Test.YtdjljnpbnhampaaDoorTlM
import Derived.Test.YtdjljnpbnhampaaDoorLeadT
namespace Go.Proofs.YtdjljnpbnhampaaDoor
set_option linter.unusedVariables false

inductive TlR where
  | bad (e : Int) (p : Nat)
  | ok (l : List Tl) (a : List Nat) (e : Nat)

def hdN (s : List UInt8) (p : Nat) : Nat := beN ((s.drop p).take 2)

def tlAt (s : List UInt8) (p : Nat) : Tl := ⟨(hdN s p / 512 : Nat), ⟨((s.drop (p + 2)).take (hdN s p % 512)).toArray⟩⟩

def rdTl (s : List UInt8) : Nat → Nat → List Tl → List Nat → TlR
  | 0, p, _, _ => .bad 7 p
  | f + 1, p, l, a =>
    if s.length < p + 2 then .bad 7 p
    else if hdN s p < 512 then
      if hdN s p ≠ 0 then .bad 3 p
      else if p + 2 + lead (s.drop (p + 2)) = s.length then .ok l a p
      else .bad 15 (p + 2 + lead (s.drop (p + 2)))
    else if s.length < p + 2 + hdN s p % 512 then .bad 7 (p + 2)
    else rdTl s f (p + 2 + hdN s p % 512) (l ++ [tlAt s p]) (a ++ [p])

def rdAll (s : List UInt8) : TlR := rdTl s (s.length + 1) 0 [] []

theorem hdN_lt (s : List UInt8) (p : Nat) : hdN s p < 65536 := by
  unfold hdN
  have h := beN_lt ((s.drop p).take 2)
  have h2 : ((s.drop p).take 2).length ≤ 2 := by rw [List.length_take]; omega
  have h3 : 256 ^ ((s.drop p).take 2).length ≤ 256 ^ 2 := Nat.pow_le_pow_right (by decide) h2
  omega
section
variable {s : List UInt8} {f p : Nat} {l : List Tl} {a : List Nat}

theorem rd_miss (h : s.length < p + 2) : rdTl s (f + 1) p l a = .bad 7 p := by rw [rdTl, if_pos h]

theorem rd_form (h : ¬ s.length < p + 2) (h1 : hdN s p < 512) (h2 : hdN s p ≠ 0) : rdTl s (f + 1) p l a = .bad 3 p := by rw [rdTl, if_neg h, if_pos h1, if_pos h2]

theorem rd_end (h : ¬ s.length < p + 2) (h2 : hdN s p = 0) (h3 : p + 2 + lead (s.drop (p + 2)) = s.length) : rdTl s (f + 1) p l a = .ok l a p := by rw [rdTl, if_neg h, if_pos (by omega), if_neg (by omega), if_pos h3]

theorem rd_spoilt (h : ¬ s.length < p + 2) (h2 : hdN s p = 0) (h3 : ¬ p + 2 + lead (s.drop (p + 2)) = s.length) : rdTl s (f + 1) p l a = .bad 15 (p + 2 + lead (s.drop (p + 2))) := by rw [rdTl, if_neg h, if_pos (by omega), if_neg (by omega), if_neg h3]

theorem rd_cut (h : ¬ s.length < p + 2) (h1 : ¬ hdN s p < 512) (h2 : s.length < p + 2 + hdN s p % 512) : rdTl s (f + 1) p l a = .bad 7 (p + 2) := by rw [rdTl, if_neg h, if_neg h1, if_pos h2]

theorem rd_step (h : ¬ s.length < p + 2) (h1 : ¬ hdN s p < 512) (h2 : ¬ s.length < p + 2 + hdN s p % 512) : rdTl s (f + 1) p l a = rdTl s f (p + 2 + hdN s p % 512) (l ++ [tlAt s p]) (a ++ [p]) := by rw [rdTl, if_neg h, if_neg h1, if_neg h2]
end

theorem tlAt_size (s : List UInt8) (p : Nat) (h : ¬ s.length < p + 2 + hdN s p % 512) : (tlAt s p).t.size = hdN s p % 512 := by
  show (((s.drop (p + 2)).take (hdN s p % 512)).toArray).size = _
  simp
  omega

theorem tlAt_ok (s : List UInt8) (p : Nat) (h1 : ¬ hdN s p < 512) (h : ¬ s.length < p + 2 + hdN s p % 512) : okTl (tlAt s p) = true := by
  have h2 := tlAt_size s p h
  have h3 := hdN_lt s p
  have h4 : (tlAt s p).k = ((hdN s p / 512 : Nat) : Int) := rfl
  simp only [okTl, Bool.and_eq_true, decide_eq_true_eq, h2, h4]
  omega

theorem putL_addT (n : Nat) : ∀ m X : Nat, putL (m * 256 ^ n + X) n = putL X n := by
  induction n with
  | zero => intro m X; rfl
  | succ n ih =>
    intro m X
    have e1 : m * 256 ^ (n + 1) + X = X + 256 ^ n * (m * 256) := by rw [Nat.pow_succ, Nat.mul_comm m, Nat.mul_assoc, Nat.mul_comm 256 m, Nat.add_comm]
    have e2 : (m * 256 ^ (n + 1) + X) / 256 ^ n % 256 = X / 256 ^ n % 256 := by
      rw [e1, Nat.add_mul_div_left _ _ (Nat.pow_pos (by decide))]
      omega
    have e3 : putL (m * 256 ^ (n + 1) + X) n = putL X n := by
      rw [show m * 256 ^ (n + 1) + X = (m * 256) * 256 ^ n + X by rw [Nat.pow_succ, Nat.mul_comm (256 ^ n) 256, Nat.mul_assoc]]
      exact ih _ _
    show UInt8.ofNat ((m * 256 ^ (n + 1) + X) / 256 ^ n % 256) :: putL (m * 256 ^ (n + 1) + X) n = UInt8.ofNat (X / 256 ^ n % 256) :: putL X n
    rw [e2, e3]

theorem putL_beNT (l : List UInt8) : putL (beN l) l.length = l := by
  induction l with
  | nil => rfl
  | cons b l ih =>
    have hl := beN_lt l
    have hb := b.toNat_lt
    rw [beN_cons, List.length_cons]
    show UInt8.ofNat ((b.toNat * 256 ^ l.length + beN l) / 256 ^ l.length % 256) :: putL (b.toNat * 256 ^ l.length + beN l) l.length = b :: l
    rw [putL_addT, ih, Nat.mul_comm, Nat.mul_add_div (Nat.pow_pos (by decide)), Nat.div_eq_of_lt hl, Nat.add_zero, Nat.mod_eq_of_lt hb]
    simp

theorem take_take_drop (s : List UInt8) (p n m : Nat) : (s.drop p).take (n + m) = (s.drop p).take n ++ (s.drop (p + n)).take m := by
  rw [List.take_add, List.drop_drop]

/-- A record that is read is written so. -/
theorem tlW_at (s : List UInt8) (p : Nat) (h0 : ¬ s.length < p + 2) (h : ¬ s.length < p + 2 + hdN s p % 512) : tlW (tlAt s p) = (s.drop p).take (2 + hdN s p % 512) := by
  have h2 := tlAt_size s p h
  have e : hdT (tlAt s p) = hdN s p := by
    unfold hdT
    rw [h2]
    show 512 * (((hdN s p / 512 : Nat) : Int)).toNat + _ = _
    omega
  have hl : ((s.drop p).take 2).length = 2 := by rw [List.length_take, List.length_drop]; omega
  unfold tlW
  rw [e, take_take_drop]
  congr 1
  have q := putL_beNT ((s.drop p).take 2)
  rw [hl] at q
  exact q

theorem lead_zero (l : List UInt8) (h : lead l = l.length) : ∀ b ∈ l, b = 0 := by
  intro b hb
  obtain ⟨j, hj⟩ := List.getElem?_of_mem hb
  have hl := (List.getElem?_eq_some_iff.1 hj).1
  exact (lead_spec l).1 j b (by omega) hj

/-- What is read may be, is written so, and begins where it is told. -/
theorem rd_was (s : List UInt8) : ∀ (f p : Nat) (l : List Tl) (a : List Nat) (m : List Tl) (b : List Nat) (e : Nat), rdTl s f p l a = .ok m b e →
    ∃ n, m = l ++ n ∧ b = a ++ offs p n ∧ (∀ x ∈ n, okTl x = true) ∧ tlWs n = (s.drop p).take (e - p) ∧ p ≤ e ∧ e + 2 ≤ s.length ∧ hdN s e = 0 ∧ (∀ c ∈ s.drop (e + 2), c = 0)
  | 0, p, l, a, m, b, e, h => by cases h
  | f + 1, p, l, a, m, b, e, h => by
    by_cases h0 : s.length < p + 2
    · rw [rd_miss h0] at h; cases h
    by_cases h1 : hdN s p < 512
    · by_cases h2 : hdN s p ≠ 0
      · rw [rd_form h0 h1 h2] at h; cases h
      · have h2 : hdN s p = 0 := by omega
        by_cases h3 : p + 2 + lead (s.drop (p + 2)) = s.length
        · rw [rd_end h0 h2 h3] at h
          cases h
          exact ⟨[], by simp, by simp [offs], by simp, by simp [tlWs], by omega, by omega, h2, lead_zero _ (by rw [List.length_drop]; omega)⟩
        · rw [rd_spoilt h0 h2 h3] at h; cases h
    · by_cases h2 : s.length < p + 2 + hdN s p % 512
      · rw [rd_cut h0 h1 h2] at h; cases h
      · rw [rd_step h0 h1 h2] at h
        obtain ⟨n, rfl, rfl, q3, q4, q5, q6, q7, q8⟩ := rd_was s f _ _ _ _ _ _ h
        have hz := tlAt_size s p h2
        refine ⟨tlAt s p :: n, by simp, by simp [offs, hz], ?_, ?_, by omega, q6, q7, q8⟩
        · intro x hx
          rcases List.mem_cons.1 hx with rfl | hx
          · exact tlAt_ok s p h1 h2
          · exact q3 x hx
        · have e1 : e - p = (2 + hdN s p % 512) + (e - (p + 2 + hdN s p % 512)) := by omega
          rw [tlWs_cons, q4, tlW_at s p h0 h2, e1, take_take_drop s p (2 + hdN s p % 512) (e - (p + 2 + hdN s p % 512)), ← Nat.add_assoc p 2]

/-- What is written is read. -/
theorem rd_wrote (s : List UInt8) : ∀ (n : List Tl) (f p : Nat) (l : List Tl) (a : List Nat), (∀ x ∈ n, okTl x = true) → s.drop p = tlWs n ++ [0, 0] → n.length < f → p ≤ s.length →
    rdTl s f p l a = .ok (l ++ n) (a ++ offs p n) (p + (tlWs n).length)
  | [], f + 1, p, l, a, _, hs, _, hp => by
    have hl : s.length = p + 2 := by have := congrArg List.length hs; simp [tlWs] at this; omega
    have h2 : hdN s p = 0 := by unfold hdN; rw [hs]; rfl
    have h3 : s.drop (p + 2) = [] := List.drop_eq_nil_of_le (by omega)
    rw [rd_end (by omega) h2 (by rw [h3, hl]; rfl)]
    simp [tlWs, offs]
  | x :: n, f + 1, p, l, a, hok, hs, hf, hp => by
    have hx := hok x (by simp)
    have ho := okTl_all hx
    have hlt := hdT_lt hx
    rw [tlWs_cons, List.append_assoc] at hs
    have hlen := congrArg List.length hs
    simp only [List.length_drop, List.length_append, tlW_len] at hlen
    have hh : hdN s p = hdT x := by
      unfold hdN
      rw [hs]
      unfold tlW
      rw [List.append_assoc, List.take_append_of_le_length (by rw [putL_length]; omega), List.take_of_length_le (by rw [putL_length]; omega), beN_putL_fits _ _ (by omega)]
    have e1 : hdT x % 512 = x.t.size := by unfold hdT; omega
    have e2 : hdT x / 512 = x.k.toNat := by unfold hdT; omega
    have hd : s.drop (p + 2 + x.t.size) = tlWs n ++ [0, 0] := by
      rw [Nat.add_assoc, ← List.drop_drop, hs, ← tlW_len x, List.drop_append_of_le_length (Nat.le_refl _), List.drop_length, List.nil_append]
    have ht : tlAt s p = x := by
      unfold tlAt
      rw [hh, e1, e2]
      have hd2 : s.drop (p + 2) = x.t.data.toList ++ (tlWs n ++ [0, 0]) := by
        rw [← List.drop_drop, hs]
        unfold tlW
        rw [List.append_assoc, List.drop_append_of_le_length (by rw [putL_length]; omega), List.drop_eq_nil_of_le (by rw [putL_length]; omega), List.nil_append]
      rw [hd2, List.take_append_of_le_length (by simp), List.take_of_length_le (by simp)]
      obtain ⟨k, t⟩ := x
      have : ((k.toNat : Nat) : Int) = k := by have := ho.1; simp only at this; omega
      simp only [this]
    rw [rd_step (by omega) (by rw [hh]; unfold hdT; omega) (by rw [hh, e1]; omega), hh, e1, ht, rd_wrote s n f (p + 2 + x.t.size) _ _ (fun y hy => hok y (by simp [hy])) hd (by simpa using hf) (by omega)]
    rw [tlWs_cons, List.length_append, tlW_len]
    simp only [List.append_assoc, List.cons_append, List.nil_append, offs]
    rw [show p + (2 + x.t.size + (tlWs n).length) = p + 2 + x.t.size + (tlWs n).length by omega]

end Go.Proofs.YtdjljnpbnhampaaDoor
