/- The best of a list: plain lists, nothing of the program. -/
import Derived.Test.YtceiiolpggolbaaDoorVecMath
namespace Go.Proofs.YtceiiolpggolbaaDoor
set_option linter.unusedVariables false

/-- The best of the first k. -/
def Bst (l : List Ve) (k : Nat) (b : Int) : Prop := (k = 0 ∧ b = -1) ∨ ∃ m, ∃ hm : m < l.length, m < k ∧ b = (m : Int) ∧ (∀ j (hj : j < l.length), j < m → bettV l[m] l[j] = true) ∧ ∀ j (hj : j < l.length), j < k → bettV l[j] l[m] = false

theorem Bst.zero (l : List Ve) : Bst l 0 (-1) := Or.inl ⟨rfl, rfl⟩
theorem Bst.one (l : List Ve) (h : 0 < l.length) : Bst l 1 0 := Or.inr ⟨0, h, by omega, rfl, fun j hj q => absurd q (by omega), fun j hj q => by
  obtain rfl : j = 0 := by omega
  exact bettV_irr _⟩
theorem Bst.keep {l : List Ve} {k m : Nat} (h : Bst l k (m : Int)) (hk : k < l.length) (hm : m < l.length) (hb : bettV l[k] l[m] = false) : Bst l (k + 1) (m : Int) := by
  rcases h with ⟨_, h⟩ | ⟨m', hm', h1, h2, h3, h4⟩
  · omega
  · obtain rfl : m = m' := by omega
    refine Or.inr ⟨m, hm', by omega, rfl, h3, fun j hj q => ?_⟩
    by_cases e : j = k
    · subst e; exact hb
    · exact h4 j hj (by omega)
theorem Bst.next {l : List Ve} {k m : Nat} (h : Bst l k (m : Int)) (hk : k < l.length) (hm : m < l.length) (hb : bettV l[k] l[m] = true) : Bst l (k + 1) (k : Int) := by
  rcases h with ⟨_, h⟩ | ⟨m', hm', h1, h2, h3, h4⟩
  · omega
  · obtain rfl : m = m' := by omega
    have hall : ∀ j (hj : j < l.length), j < k → bettV l[k] l[j] = true := fun j hj q => by
      cases hc : bettV l[k] l[j] with
      | true => rfl
      | false =>
        have := bettV_neg (h4 j hj q) hc
        rw [hb] at this; cases this
    refine Or.inr ⟨k, hk, by omega, rfl, hall, fun j hj q => ?_⟩
    by_cases e : j = k
    · subst e; exact bettV_irr _
    · exact bettV_asym (hall j hj (by omega))
theorem Bst.cases {l : List Ve} {k : Nat} {b : Int} (h : Bst l k b) (hk : 0 < k) : ∃ m, m < k ∧ m < l.length ∧ b = (m : Int) := by
  rcases h with ⟨h, _⟩ | ⟨m, hm, h1, h2, _⟩
  · omega
  · exact ⟨m, h1, hm, h2⟩
theorem Bst.all {l : List Ve} {b : Int} (h : Bst l l.length b) : BestAt l b := by
  rcases h with ⟨h, h'⟩ | ⟨m, hm, h1, h2, h3, h4⟩
  · exact Or.inl ⟨List.length_eq_zero_iff.1 h, h'⟩
  · exact Or.inr ⟨m, hm, h2, h3, fun j hj => h4 j hj hj⟩
theorem Bst.ex (l : List Ve) : ∀ k, k ≤ l.length → ∃ b, Bst l k b
  | 0, _ => ⟨-1, Bst.zero l⟩
  | k + 1, h => by
    obtain ⟨b, hb⟩ := Bst.ex l k (by omega)
    by_cases h0 : k = 0
    · subst h0; exact ⟨0, Bst.one l (by omega)⟩
    · obtain ⟨m, hm, hml, rfl⟩ := hb.cases (by omega)
      cases hc : bettV (l[k]'(by omega)) (l[m]) with
      | false => exact ⟨_, hb.keep (by omega) hml hc⟩
      | true => exact ⟨_, hb.next (by omega) hml hc⟩
theorem BestAt.ex (l : List Ve) : ∃ b, BestAt l b := by
  obtain ⟨b, hb⟩ := Bst.ex l l.length (Nat.le_refl _)
  exact ⟨b, hb.all⟩

/-- The first that none is better than. -/
theorem BestAt.first {l : List Ve} {k : Nat} (hk : k < l.length) (h1 : ∀ i (hi : i < l.length), i < k → ∃ j, ∃ hj : j < l.length, bettV l[j] l[i] = true) (h2 : ∀ j (hj : j < l.length), bettV l[j] l[k] = false) : BestAt l (k : Int) := by
  refine Or.inr ⟨k, hk, rfl, fun i hi q => ?_, h2⟩
  obtain ⟨j, hj, hb⟩ := h1 i hi q
  cases hc : bettV l[k] l[i] with
  | true => rfl
  | false =>
    have := bettV_neg hc (h2 j hj)
    rw [hb] at this; cases this
theorem BestAt.none {l : List Ve} (h1 : ∀ i (hi : i < l.length), ∃ j, ∃ hj : j < l.length, bettV l[j] l[i] = true) : BestAt l (-1) := by
  obtain ⟨b, hb⟩ := BestAt.ex l
  rcases hb with ⟨h, h'⟩ | ⟨m, hm, h2, h3, h4⟩
  · exact Or.inl ⟨h, rfl⟩
  · obtain ⟨j, hj, hc⟩ := h1 m hm
    rw [h4 j hj] at hc; cases hc

/-- A list and one more. -/
theorem bestAt_more {l : List Ve} {v : Ve} {i j : Int} (h : BestAt l i) (h' : BestAt (l ++ [v]) j) (hl : l ≠ []) : j = i ∨ (j = (l.length : Int) ∧ ∃ k, ∃ hk : k < l.length, i = (k : Int) ∧ bettV v l[k] = true) := by
  rcases h with ⟨rfl, _⟩ | ⟨k, hk, rfl, h1, h2⟩
  · exact absurd rfl hl
  · have hk' : k < (l ++ [v]).length := by simp; omega
    have e1 : (l ++ [v])[k] = l[k] := List.getElem_append_left hk
    have e2 : ∀ j (hj : j < l.length), (l ++ [v])[j]'(by simp; omega) = l[j] := fun j hj => List.getElem_append_left hj
    have e3 : (l ++ [v])[l.length]'(by simp) = v := by simp
    cases hc : bettV v l[k] with
    | false =>
      left
      refine BestAt.one h' (Or.inr ⟨k, hk', rfl, fun j hj q => ?_, fun j hj => ?_⟩)
      · rw [e1, e2 j (by omega)]; exact h1 j (by omega) q
      · by_cases e : j < l.length
        · rw [e1, e2 j e]; exact h2 j e
        · obtain rfl : j = l.length := by simp at hj; omega
          rw [e1, e3]; exact hc
    | true =>
      right
      refine ⟨?_, k, hk, rfl, hc⟩
      refine BestAt.one h' (Or.inr ⟨l.length, by simp, rfl, fun j hj q => ?_, fun j hj => ?_⟩)
      · rw [e3, e2 j q]
        cases hd : bettV v l[j] with
        | true => rfl
        | false =>
          have := bettV_neg (h2 j q) hd
          rw [hc] at this; cases this
      · by_cases e : j < l.length
        · rw [e3, e2 j e]
          have hv : bettV v l[j] = true := by
            cases hd : bettV v l[j] with
            | true => rfl
            | false =>
              have := bettV_neg (h2 j e) hd
              rw [hc] at this; cases this
          exact bettV_asym hv
        · obtain rfl : j = l.length := by simp at hj; omega
          exact bettV_irr _

end Go.Proofs.YtceiiolpggolbaaDoor
