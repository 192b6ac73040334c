/- Bodies that lie somewhere: what is wrong with them, and what may be: plain. -/
import Derived.Test.YtdjljnpbnhampaaDoorBpMath
namespace Go.Proofs.YtdjljnpbnhampaaDoor
open Go.RowKit
set_option linter.unusedVariables false
set_option linter.unusedSimpArgs false

theorem bdE_none (n : Nat) (h : 35 ≤ n) : bdE n 4 false = none := by
  unfold bdE
  rw [if_neg (by omega), if_neg (by omega), if_neg (by omega), if_neg (by omega), if_neg (by omega), if_neg (by omega), if_neg (by omega), if_neg (by simp), if_neg (by omega), if_neg (by omega), if_neg (by omega), if_neg (by omega)]

theorem some_ne7 {a : Int} {b : Nat} {e : Int} {x : Nat} (ha : a ≠ 0) (h : some (a, b) = some (e, x)) : e ≠ 0 := by
  cases h
  exact ha

theorem bdE_not0 {n p : Nat} {z : Bool} {e : Int} {x : Nat} (h : bdE n p z = some (e, x)) : e ≠ 0 := by
  unfold bdE at h
  by_cases q0 : n < p + 1
  · rw [if_pos q0] at h
    exact some_ne7 (by decide) h
  rw [if_neg q0] at h
  by_cases q1 : n < p + 3
  · rw [if_pos q1] at h
    exact some_ne7 (by decide) h
  rw [if_neg q1] at h
  by_cases q2 : n < p + 9
  · rw [if_pos q2] at h
    exact some_ne7 (by decide) h
  rw [if_neg q2] at h
  by_cases q3 : n < p + 13
  · rw [if_pos q3] at h
    exact some_ne7 (by decide) h
  rw [if_neg q3] at h
  by_cases q4 : n < p + 15
  · rw [if_pos q4] at h
    exact some_ne7 (by decide) h
  rw [if_neg q4] at h
  by_cases q5 : n < p + 21
  · rw [if_pos q5] at h
    exact some_ne7 (by decide) h
  rw [if_neg q5] at h
  by_cases q6 : n < p + 23
  · rw [if_pos q6] at h
    exact some_ne7 (by decide) h
  rw [if_neg q6] at h
  by_cases q7 : z = true
  · rw [if_pos q7] at h
    exact some_ne7 (by decide) h
  rw [if_neg q7] at h
  by_cases q8 : n < p + 25
  · rw [if_pos q8] at h
    exact some_ne7 (by decide) h
  rw [if_neg q8] at h
  by_cases q9 : n < p + 27
  · rw [if_pos q9] at h
    exact some_ne7 (by decide) h
  rw [if_neg q9] at h
  by_cases q10 : n < p + 29
  · rw [if_pos q10] at h
    exact some_ne7 (by decide) h
  rw [if_neg q10] at h
  by_cases q11 : n < p + 31
  · rw [if_pos q11] at h
    exact some_ne7 (by decide) h
  rw [if_neg q11] at h
  cases h

theorem bdE_full {n p : Nat} {z : Bool} (h : bdE n p z = none) : p + 31 ≤ n ∧ z = false := by
  unfold bdE at h
  by_cases q0 : n < p + 1
  · rw [if_pos q0] at h
    cases h
  rw [if_neg q0] at h
  by_cases q1 : n < p + 3
  · rw [if_pos q1] at h
    cases h
  rw [if_neg q1] at h
  by_cases q2 : n < p + 9
  · rw [if_pos q2] at h
    cases h
  rw [if_neg q2] at h
  by_cases q3 : n < p + 13
  · rw [if_pos q3] at h
    cases h
  rw [if_neg q3] at h
  by_cases q4 : n < p + 15
  · rw [if_pos q4] at h
    cases h
  rw [if_neg q4] at h
  by_cases q5 : n < p + 21
  · rw [if_pos q5] at h
    cases h
  rw [if_neg q5] at h
  by_cases q6 : n < p + 23
  · rw [if_pos q6] at h
    cases h
  rw [if_neg q6] at h
  by_cases q7 : z = true
  · rw [if_pos q7] at h
    cases h
  rw [if_neg q7] at h
  by_cases q8 : n < p + 25
  · rw [if_pos q8] at h
    cases h
  rw [if_neg q8] at h
  by_cases q9 : n < p + 27
  · rw [if_pos q9] at h
    cases h
  rw [if_neg q9] at h
  by_cases q10 : n < p + 29
  · rw [if_pos q10] at h
    cases h
  rw [if_neg q10] at h
  by_cases q11 : n < p + 31
  · rw [if_pos q11] at h
    cases h
  rw [if_neg q11] at h
  exact ⟨by omega, by cases z <;> simp_all⟩

theorem eqBp_cells {a b : Bp} (h : eqBp a b = true) : bpC a = bpC b := by
  simp only [eqBp, Bool.and_eq_true, beq_iff_eq, eqP] at h
  obtain ⟨h0, h1, h2, h3, h4, ⟨h5, h6⟩, h7, h8, h9, h10⟩ := h
  rw [eqB_iff, decide_eq_true_iff] at h2 h4
  exact bpC_congr a b h0 ((eqFl_iff _ _).1 h1) (brC_nums h2) h3 (brC_nums h4) h5 h6 h7 h8 h9 h10

theorem hd_of {s : ByteArray} {H C : List UInt8} (h : s.data.toList = H ++ C) (hH : H.length = 4) : hdAt s = H := seg (A := []) (X := H) (C := C) (by simpa using h) rfl hH

theorem len_of {s : ByteArray} {l : List UInt8} (h : s.data.toList = l) : s.size = l.length := by
  rw [← h]
  simp

theorem okB_at (s : ByteArray) (p : Nat) : okB (brAt s p) = true := by
  have h := beAt_lt s p
  unfold okB prB brAt
  simp only [Bool.and_eq_true, decide_eq_true_eq]
  omega

theorem fit_at (s : ByteArray) (p n : Nat) : fitI n ((numAt s p n : Nat) : Int) = true := by
  have h := beN_lt ((s.data.toList.drop p).take n)
  have hl : ((s.data.toList.drop p).take n).length ≤ n := List.length_take_le n _
  have h3 : 256 ^ ((s.data.toList.drop p).take n).length ≤ 256 ^ n := Nat.pow_le_pow_right (by decide) hl
  have h4 : numAt s p n < 256 ^ n := Nat.lt_of_lt_of_le h h3
  have e : ((256 ^ n : Nat) : Int) = 256 ^ n := by simp
  unfold fitI
  rw [decide_eq_true (Int.natCast_nonneg _), decide_eq_true (show ((numAt s p n : Nat) : Int) < 256 ^ n by omega)]
  rfl

theorem okBd_at (s : ByteArray) (p : Nat) (k : Int) (hz : pzAt s (p + 21) = false) : okBd (bpAt s p k) = true := by
  have h := beAt_lt s (p + 21)
  have hp : okPt ((beAt s (p + 21) : Int) / 4096 * 16) ((beAt s (p + 21) : Int) % 4096) = true := by
    unfold pzAt at hz
    rw [beq_eq_false_iff_ne] at hz
    unfold okPt prB
    simp only [Bool.and_eq_true, decide_eq_true_eq]
    omega
  unfold okBd okTm
  show (okB (brAt s (p + 1)) && (okB (brAt s (p + 13)) && (okPt ((beAt s (p + 21) : Int) / 4096 * 16) ((beAt s (p + 21) : Int) % 4096) && (fitI 4 (numAt s (p + 9) 4 : Nat) && (fitI 2 (numAt s (p + 23) 2 : Nat) && (fitI 2 (numAt s (p + 25) 2 : Nat) && (fitI 2 (numAt s (p + 27) 2 : Nat) && fitI 2 (numAt s (p + 29) 2 : Nat)))))))) = true
  rw [okB_at, okB_at, hp, fit_at, fit_at, fit_at, fit_at, fit_at]
  rfl

theorem by_at (s : ByteArray) (p : Nat) (k : Int) : byBp (bpAt s p k) := ⟨fun i => byX_lt _ i, fun i => byX_lt _ i⟩

theorem i64_fit {n : Nat} {v : Int} (hn : n ≤ 7) (h : fitI n v = true) : i64R v := by
  obtain ⟨h0, h1⟩ := fitI_all h
  have e : ((256 ^ n : Nat) : Int) = 256 ^ n := by simp
  have h3 : 256 ^ n ≤ 256 ^ 7 := Nat.pow_le_pow_right (by decide) hn
  exact ⟨by omega, by omega⟩

theorem rg_of {b : Bp} (h : okBd b = true) : rgBp b := by
  obtain ⟨_, _, _, hcost, hage, hmx, hhel, hwai⟩ := okBd_all h
  exact ⟨i64_fit (by decide) hcost, i64_fit (by decide) hage, i64_fit (by decide) hmx, i64_fit (by decide) hhel, i64_fit (by decide) hwai⟩


end Go.Proofs.YtdjljnpbnhampaaDoor
