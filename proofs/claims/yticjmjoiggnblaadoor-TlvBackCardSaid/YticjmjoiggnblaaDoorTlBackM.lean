/- 13.1: there and back, plainly. -/
import Derived.Test.YticjmjoiggnblaaDoorTlRound
namespace Go.Proofs.YticjmjoiggnblaaDoor
set_option linter.unusedVariables false

theorem offs_get : ∀ (l : List Tl) (p k : Nat) (hk : k < l.length), (offs p l)[k]'(by rw [offs_len]; exact hk) = p + (tlWs (l.take k)).length
  | x :: l, p, 0, _ => by simp [offs, tlWs]
  | x :: l, p, k + 1, hk => by
    have hk' : k < l.length := by simpa using hk
    have ih := offs_get l (p + 2 + x.t.size) k hk'
    have e : (offs p (x :: l))[k + 1]'(by rw [offs_len]; exact hk) = (offs (p + 2 + x.t.size) l)[k]'(by rw [offs_len]; exact hk') := rfl
    rw [e, ih, List.take_succ_cons, tlWs_cons, List.length_append, tlW_len]
    omega
/-- Where each ends, the next begins, or the end. -/
theorem offs_next (l : List Tl) (k : Nat) (hk : k < l.length) : (offs 0 l)[k]'(by rw [offs_len]; exact hk) + 2 + l[k].t.size = 0 + (tlWs (l.take (k + 1))).length := by
  rw [offs_get l 0 k hk, tlWs_take l k hk, List.length_append, tlW_len]
  omega
theorem rdAll_wrote (l : List Tl) (h : ∀ x ∈ l, okTl x = true) : rdAll (tlWrite l) = .ok l (offs 0 l) (tlWs l).length := by
  have hl : ∀ (l : List Tl), l.length ≤ (tlWs l).length := fun l => by
    induction l with
    | nil => simp [tlWs]
    | cons x l ih => rw [tlWs_cons, List.length_append, tlW_len, List.length_cons]; omega
  have h2 := hl l
  have q := rd_wrote (tlWrite l) l ((tlWrite l).length + 1) 0 [] [] h rfl (by unfold tlWrite; rw [List.length_append]; simp; omega) (Nat.zero_le _)
  rw [List.nil_append, List.nil_append, Nat.zero_add] at q
  exact q
theorem wrote_rdAll (s : List UInt8) (m : List Tl) (b : List Nat) (e : Nat) (h : rdAll s = .ok m b e) : (∀ x ∈ m, okTl x = true) ∧ tlWrite m = s.take (e + 2) ∧ (tlWrite m).length = e + 2 ∧ 2 * m.length ≤ s.length ∧ b = offs 0 m ∧ e + 2 ≤ s.length ∧ (∀ c ∈ s.drop (e + 2), c = 0) := by
  obtain ⟨n, q1, q2, q3, q4, q5, q6, q7, q8⟩ := rd_was s _ _ _ _ _ _ _ h
  rw [List.nil_append] at q1 q2
  subst q1
  rw [List.drop_zero, Nat.sub_zero] at q4
  have hl : ∀ (l : List Tl), 2 * l.length ≤ (tlWs l).length := fun l => by
    induction l with
    | nil => simp [tlWs]
    | cons x l ih => rw [tlWs_cons, List.length_append, tlW_len, List.length_cons]; omega
  have h1 := hl m
  have h2 := congrArg List.length q4
  rw [List.length_take] at h2
  have h3 : (s.drop e).take 2 = [0, 0] := by
    have l2 : ((s.drop e).take 2).length = 2 := by rw [List.length_take, List.length_drop]; omega
    have q := putL_beNT ((s.drop e).take 2)
    rw [l2] at q
    have q7' : beN ((s.drop e).take 2) = 0 := q7
    rw [q7'] at q
    exact q.symm
  have h4 : tlWrite m = s.take (e + 2) := by
    unfold tlWrite
    rw [q4, List.take_add, h3]
  refine ⟨q3, h4, by rw [h4, List.length_take]; omega, by omega, q2, q6, q8⟩
theorem rd_bad_ne (s : List UInt8) : ∀ (f p : Nat) (l : List Tl) (a : List Nat) (e : Int) (x : Nat), rdTl s f p l a = .bad e x → e ≠ 0
  | 0, p, l, a, e, x, h => by cases h; decide
  | f + 1, p, l, a, e, x, h => by
    by_cases h0 : s.length < p + 2
    · rw [rd_miss h0] at h; cases h; decide
    by_cases h1 : hdN s p < 512
    · by_cases h2 : hdN s p ≠ 0
      · rw [rd_form h0 h1 h2] at h; cases h; decide
      · have h2 : hdN s p = 0 := by omega
        by_cases h3 : p + 2 + lead (s.drop (p + 2)) = s.length
        · rw [rd_end h0 h2 h3] at h; cases h
        · rw [rd_spoilt h0 h2 h3] at h; cases h; decide
    · by_cases h2 : s.length < p + 2 + hdN s p % 512
      · rw [rd_cut h0 h1 h2] at h; cases h; decide
      · rw [rd_step h0 h1 h2] at h
        exact rd_bad_ne s f _ _ _ e x h
theorem bad_recs {s : List UInt8} {e : Int} {p : Nat} (h : rdAll s = .bad e p) : (rdAll s).recs = [] := by rw [h]; rfl

end Go.Proofs.YticjmjoiggnblaaDoor
