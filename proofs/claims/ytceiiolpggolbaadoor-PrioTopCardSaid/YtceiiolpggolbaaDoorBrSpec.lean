/- The text of a bridge's name, and what is guessed from a text: plain lists, nothing of the program. -/
import Derived.Test.YtceiiolpggolbaaDoorDec
import Derived.Test.YtceiiolpggolbaaDoorVecMath
import Derived.Test.YtceiiolpggolbaaDoorHexT
namespace Go.Proofs.YtceiiolpggolbaaDoor
set_option linter.unusedVariables false

/-- One of the steps from 0 on. -/
def prB (x top step : Int) : Bool := decide (0 ≤ x) && (decide (x ≤ top) && decide (x % step = 0))
theorem prB_all {x top step : Int} (h : prB x top step = true) : 0 ≤ x ∧ x ≤ top ∧ x % step = 0 := by
  simpa only [prB, Bool.and_eq_true, decide_eq_true_eq] using h
/-- A name that may be. -/
def okB (b : Br) : Bool := prB b.p 61440 4096 && (decide (0 ≤ b.e) && decide (b.e ≤ 4095))
theorem okB_all {b : Br} (h : okB b = true) : 0 ≤ b.p ∧ b.p ≤ 61440 ∧ b.p % 4096 = 0 ∧ 0 ≤ b.e ∧ b.e ≤ 4095 := by
  simp only [okB, prB, Bool.and_eq_true, decide_eq_true_eq] at h
  obtain ⟨⟨h0, h1, h2⟩, h3, h4⟩ := h
  exact ⟨h0, h1, h2, h3, h4⟩
/-- A port's name that may be. -/
def okPt (p n : Int) : Bool := prB p 240 16 && (decide (1 ≤ n) && decide (n ≤ 4095))
theorem okPt_all {p n : Int} (h : okPt p n = true) : 0 ≤ p ∧ p ≤ 240 ∧ p % 16 = 0 ∧ 1 ≤ n ∧ n ≤ 4095 := by
  simp only [okPt, prB, Bool.and_eq_true, decide_eq_true_eq] at h
  obtain ⟨⟨h0, h1, h2⟩, h3, h4⟩ := h
  exact ⟨h0, h1, h2, h3, h4⟩
/-- Its bytes are bytes. -/
def byB (b : Br) : Prop := ∀ i, b.a i < 256

/-- Its text. -/
def textB (b : Br) : List UInt8 := Lib.itoa b.p ++ (46 :: (Lib.itoa b.e ++ (47 :: addrL b.a)))

theorem nDigits_five (u : Nat) (h : u < 100000) : Lib.nDigits u ≤ 5 := by
  by_cases h1 : u < 10
  · rw [Lib.nDigits_small h1]; omega
  rw [Lib.nDigits_big h1]
  have := nDigits_four (u / 10) (by omega)
  omega

theorem itoa_len5 (v : Int) (h0 : 0 ≤ v) (h1 : v ≤ 99999) : (Lib.itoa v).length ≤ 5 ∧ 1 ≤ (Lib.itoa v).length := by
  obtain ⟨u, rfl⟩ := Int.eq_ofNat_of_zero_le h0
  rw [itoa_nat, Lib.decDigits_length]
  exact ⟨nDigits_five u (by omega), Lib.nDigits_pos u⟩

theorem itoa_len4 (v : Int) (h0 : 0 ≤ v) (h1 : v ≤ 9999) : (Lib.itoa v).length ≤ 4 := by
  obtain ⟨u, rfl⟩ := Int.eq_ofNat_of_zero_le h0
  rw [itoa_nat, Lib.decDigits_length]
  exact nDigits_four u (by omega)

theorem itoa_bytes (v : Int) (h0 : 0 ≤ v) : ∀ b ∈ Lib.itoa v, 48 ≤ b.toNat ∧ b.toNat ≤ 57 := by
  obtain ⟨u, rfl⟩ := Int.eq_ofNat_of_zero_le h0
  rw [itoa_nat]
  exact decDigits_bytes u

theorem atoiV_itoa5 (v : Int) (h0 : 0 ≤ v) (h1 : v ≤ 99999) : atoiV (Lib.itoa v) = v := by
  obtain ⟨u, rfl⟩ := Int.eq_ofNat_of_zero_le h0
  have hl : (Lib.decDigits u).length ≤ 18 := by
    rw [Lib.decDigits_length]
    have := nDigits_five u (by omega)
    omega
  have e : Lib.atoiAll (Lib.decDigits u) = .ok (u : Int) := by rw [Lib.atoiAll_short _ hl, atoi_digits]; rfl
  rw [itoa_nat, atoiV, e]

theorem index_at (s : UInt8) : ∀ (p q : List UInt8), (∀ b ∈ p, b ≠ s) → Lib.index (p ++ s :: q) [s] = p.length
  | [], q, _ => by unfold Lib.index; simp
  | b :: p, q, h => by
    have ih := index_at s p q (fun c hc => h c (List.mem_cons_of_mem _ hc))
    have hb := h b (by simp)
    rw [List.cons_append]
    unfold Lib.index
    rw [ih]
    have e : List.isPrefixOf [s] (b :: (p ++ s :: q)) = false := by
      simp only [List.isPrefixOf, Bool.and_true, beq_eq_false_iff_ne]
      exact fun q => hb q.symm
    have e2 : ((p.length : Int) == -1) = false := by rw [beq_eq_false_iff_ne]; omega
    simp [e, e2]

theorem cut_at (s : UInt8) (p q : List UInt8) (h : ∀ b ∈ p, b ≠ s) : Lib.cut (p ++ s :: q) [s] = (p, q, true) := by
  unfold Lib.cut
  rw [index_at s p q h, if_pos (by omega)]
  simp [List.drop_append]

theorem cut_le (s : List UInt8) (l : List UInt8) : (Lib.cut l s).1.length ≤ l.length ∧ (Lib.cut l s).2.1.length ≤ l.length := by
  unfold Lib.cut
  split <;> simp <;> omega

/-- The parts of a text. -/
def headB (l : List UInt8) : List UInt8 := (Lib.cut l [47]).1
def tailB (l : List UInt8) : List UInt8 := (Lib.cut l [47]).2.1
def firstB (l : List UInt8) : List UInt8 := (Lib.cut (headB l) [46]).1
def secondB (l : List UInt8) : List UInt8 := (Lib.cut (headB l) [46]).2.1

theorem ne_of_digit {b : UInt8} (h : 48 ≤ b.toNat ∧ b.toNat ≤ 57) : b ≠ 46 ∧ b ≠ 47 := by
  constructor <;> (rintro rfl; exact absurd h.1 (by decide))

theorem textB_parts (b : Br) (h : okB b = true) : headB (textB b) = Lib.itoa b.p ++ (46 :: Lib.itoa b.e) ∧ tailB (textB b) = addrL b.a ∧ firstB (textB b) = Lib.itoa b.p ∧ secondB (textB b) = Lib.itoa b.e := by
  obtain ⟨p0, p1, _, e0, e1⟩ := okB_all h
  have hp := itoa_bytes b.p p0
  have he := itoa_bytes b.e e0
  have hc : Lib.cut (textB b) [47] = (Lib.itoa b.p ++ (46 :: Lib.itoa b.e), addrL b.a, true) := by
    have := cut_at 47 (Lib.itoa b.p ++ (46 :: Lib.itoa b.e)) (addrL b.a) (by
      intro c hc
      rcases List.mem_append.1 hc with q | q
      · exact (ne_of_digit (hp c q)).2
      · rcases List.mem_cons.1 q with rfl | q
        · decide
        · exact (ne_of_digit (he c q)).2)
    rw [← this]
    unfold textB
    simp
  have hd := cut_at 46 (Lib.itoa b.p) (Lib.itoa b.e) (fun c hc => (ne_of_digit (hp c hc)).1)
  have e1 : headB (textB b) = Lib.itoa b.p ++ (46 :: Lib.itoa b.e) := by unfold headB; rw [hc]
  exact ⟨e1, by unfold tailB; rw [hc], by unfold firstB; rw [e1, hd], by unfold secondB; rw [e1, hd]⟩

/-- One text, one name. -/
theorem textB_inj {a b : Br} (ha : okB a = true) (hb : okB b = true) (xa : byB a) (xb : byB b) (h : textB a = textB b) : a.p = b.p ∧ a.e = b.e ∧ six a.a = six b.a := by
  obtain ⟨p0, p1, _, e0, e1⟩ := okB_all ha
  obtain ⟨q0, q1, _, f0, f1⟩ := okB_all hb
  obtain ⟨_, a1, a2, a3⟩ := textB_parts a ha
  obtain ⟨_, b1, b2, b3⟩ := textB_parts b hb
  refine ⟨?_, ?_, ?_⟩
  · have : Lib.itoa a.p = Lib.itoa b.p := by rw [← a2, ← b2, h]
    rw [← atoiV_itoa5 a.p p0 (by omega), this, atoiV_itoa5 b.p q0 (by omega)]
  · have : Lib.itoa a.e = Lib.itoa b.e := by rw [← a3, ← b3, h]
    rw [← atoiV_itoa5 a.e e0 (by omega), this, atoiV_itoa5 b.e f0 (by omega)]
  · exact addrL_inj xa xb (by rw [← a1, ← b1, h])

/-- How long a text is. -/
theorem textB_len (b : Br) (h : okB b = true) : 21 ≤ (textB b).length ∧ (textB b).length ≤ 28 := by
  obtain ⟨p0, p1, _, e0, e1⟩ := okB_all h
  have h1 := itoa_len5 b.p p0 (by omega)
  have h2 := itoa_len5 b.e e0 (by omega)
  have h3 := itoa_len4 b.e e0 (by omega)
  have h4 := addrL_length b.a
  unfold textB
  simp only [List.length_append, List.length_cons, h4]
  omega

end Go.Proofs.YtceiiolpggolbaaDoor
