/- 16.2: an attribute beside the plain answer. -/
import Derived.Test.YtdjljnpbnhampaaDoorMvEvents
namespace Go.Proofs.YtdjljnpbnhampaaDoor
set_option linter.unusedVariables false

/-- What holds ahead of an attribute. -/
def AtI (S : List UInt8) (R : AtR) (st : RSt) : Prop := st.1 ≤ S.length ∧ ((st.2 = (0, -1) ∧ rdAt S st.1 = R) ∨ (∃ x : Nat, st.2.1 ≠ 0 ∧ st.2.2 = (x : Int) ∧ R = .bad st.2.1 x))

/-- No attribute: the end, or an error. -/
def AtEnd (S : List UInt8) (R : AtR) (st : RSt) : Prop := st.1 ≤ S.length ∧ ((∃ q, R = .fin q ∧ st = (q, 0, -1)) ∨ (∃ x : Nat, st.2.1 ≠ 0 ∧ st.2.2 = (x : Int) ∧ R = .bad st.2.1 x))

/-- An attribute, or an error. -/
def AtOut (S : List UInt8) (R : AtR) (x : Mv) (st : RSt) : Prop := st.1 ≤ S.length ∧ ((∃ q, R = .got x q ∧ st = (q, 0, -1)) ∨ (∃ x : Nat, st.2.1 ≠ 0 ∧ st.2.2 = (x : Int) ∧ R = .bad st.2.1 x))

theorem nm2_go (S : List UInt8) (p : Nat) (x : Int) (h : p + 2 ≤ S.length) : nmS S 0 (p, 0, x) 2 = (p + 2, 0, x) ∧ nmV S 0 (p, 0, x) 2 = hdN S p := nm_go S (p, 0, x) 2 (by decide) (by decide) rfl h

theorem rdAt_go {S : List UInt8} {p : Nat} (h0 : ¬ S.length < p + 2) (h1 : ¬ hdN S p = 0) (h2 : ¬ (16384 ≤ hdN S p ∨ 400 < hdN S p % 8192)) (h3 : ¬ S.length < p + 4) : rdAt S p = match rdEv S (hdN S p % 8192) (hdN S p % 8192) (p + 4) [] with
    | .bad e q => .bad e q
    | .ok l q => if okMv ⟨decide (8192 ≤ hdN S p), (hdN S (p + 2) : Nat), l⟩ = true then .got ⟨decide (8192 ≤ hdN S p), (hdN S (p + 2) : Nat), l⟩ q else .bad 2 p := by
  unfold rdAt
  rw [if_neg h0, if_neg h1, if_neg h2, if_neg h3]
  cases rdEv S (hdN S p % 8192) (hdN S p % 8192) (p + 4) [] <;> rfl

theorem at_round (S : List UInt8) (R : AtR) (st : RSt) (h : AtI S R st) :
    (nmV S 0 st 2 = 0 ∧ AtEnd S R (nmS S 0 st 2)) ∨
    (nmV S 0 st 2 ≠ 0 ∧ (16384 ≤ nmV S 0 st 2 ∨ 400 < nmV S 0 st 2 % 8192) ∧ AtEnd S R (flR (nmS S 0 st 2) 2 st.1)) ∨
    (nmV S 0 st 2 ≠ 0 ∧ nmV S 0 st 2 < 16384 ∧ nmV S 0 st 2 % 8192 ≤ 400 ∧ (nmS S 0 st 2).1 ≤ S.length ∧ ∃ R', EvI S (nmV S 0 st 2 % 8192) R' (nmS S 0 (nmS S 0 st 2) 2) [] ∧
      ∀ l st3, EvEnd S R' st3 l → (okMv ⟨decide (8192 ≤ nmV S 0 st 2), (nmV S 0 (nmS S 0 st 2) 2 : Nat), l⟩ = true → AtOut S R ⟨decide (8192 ≤ nmV S 0 st 2), (nmV S 0 (nmS S 0 st 2) 2 : Nat), l⟩ st3) ∧
        (okMv ⟨decide (8192 ≤ nmV S 0 st 2), (nmV S 0 (nmS S 0 st 2) 2 : Nat), l⟩ = false → AtEnd S R (flR st3 2 st.1) ∧ (flR st3 2 st.1).2.1 ≠ 0)) := by
  obtain ⟨p, e, x⟩ := st
  obtain ⟨hp, h⟩ := h
  have hp : p ≤ S.length := hp
  rcases h with ⟨hst, hR⟩ | ⟨x', he, hx, hR⟩
  · simp only [Prod.mk.injEq] at hst
    obtain ⟨rfl, rfl⟩ := hst
    have hR : rdAt S p = R := hR
    by_cases h0 : S.length < p + 2
    · left
      have e1 : nmS S 0 (p, 0, -1) 2 = (p, 7, (p : Int)) := nm_miss S (p, 0, -1) 2 (by decide) (by decide) rfl (by show ¬ p + 2 ≤ S.length; omega) hp
      have e2 : nmV S 0 (p, 0, -1) 2 = 0 := nmV_miss S p (-1) 2 (by decide) (by decide) (by omega) hp
      have e3 : rdAt S p = .bad 7 p := by unfold rdAt; rw [if_pos h0]
      rw [e1, e2]
      exact ⟨rfl, hp, Or.inr ⟨p, (by decide : (7 : Int) ≠ 0), rfl, by rw [← hR, e3]⟩⟩
    · obtain ⟨e1, e2⟩ := nm2_go S p (-1) (by omega)
      rw [e1, e2]
      by_cases h1 : hdN S p = 0
      · left
        have e3 : rdAt S p = .fin (p + 2) := by unfold rdAt; rw [if_neg h0, if_pos h1]
        exact ⟨h1, by show p + 2 ≤ S.length; omega, Or.inl ⟨p + 2, by rw [← hR, e3], rfl⟩⟩
      · by_cases h2 : 16384 ≤ hdN S p ∨ 400 < hdN S p % 8192
        · right; left
          have e3 : rdAt S p = .bad 2 p := by unfold rdAt; rw [if_neg h0, if_neg h1, if_pos h2]
          have e4 : flR (p + 2, 0, -1) 2 (p : Int) = (p + 2, 2, (p : Int)) := flR_ok
          refine ⟨h1, h2, ?_⟩
          show AtEnd S R (flR (p + 2, 0, -1) 2 (p : Int))
          rw [e4]
          exact ⟨by show p + 2 ≤ S.length; omega, Or.inr ⟨p, (by decide : (2 : Int) ≠ 0), rfl, by rw [← hR, e3]⟩⟩
        · right; right
          refine ⟨h1, by omega, by omega, by show p + 2 ≤ S.length; omega, ?_⟩
          by_cases h3 : S.length < p + 4
          · have e5 : nmS S 0 (p + 2, 0, -1) 2 = (p + 2, 7, ((p + 2 : Nat) : Int)) := nm_miss S (p + 2, 0, -1) 2 (by decide) (by decide) rfl (by show ¬ p + 2 + 2 ≤ S.length; omega) (by show p + 2 ≤ S.length; omega)
            have e3 : rdAt S p = .bad 7 (p + 2) := by unfold rdAt; rw [if_neg h0, if_neg h1, if_neg h2, if_pos h3]
            rw [e5]
            refine ⟨.bad 7 (p + 2), ⟨by show p + 2 ≤ S.length; omega, Nat.zero_le _, Or.inr ⟨p + 2, (by decide : (7 : Int) ≠ 0), rfl, rfl⟩⟩, fun l st3 hE => ?_⟩
            obtain ⟨q1, q2⟩ := hE
            rcases q2 with ⟨_, q2⟩ | ⟨y, q3, q4, q5⟩
            · cases q2
            · have hRb : R = .bad st3.2.1 y := by
                rw [← hR, e3]
                injection q5 with q6 q7
                rw [q6, q7]
              refine ⟨fun _ => ⟨q1, Or.inr ⟨y, q3, q4, hRb⟩⟩, fun _ => ?_⟩
              rw [flR_bad st3 _ _ q3]
              exact ⟨⟨q1, Or.inr ⟨y, q3, q4, hRb⟩⟩, q3⟩
          · obtain ⟨e5, e6⟩ := nm2_go S (p + 2) (-1) (by omega)
            rw [e5, e6]
            have e3 := rdAt_go h0 h1 h2 h3
            refine ⟨rdEv S (hdN S p % 8192) (hdN S p % 8192) (p + 4) [], ⟨by show p + 2 + 2 ≤ S.length; omega, Nat.zero_le _, Or.inl ⟨rfl, hdN S p % 8192, rfl, by simp⟩⟩, fun l st3 hE => ?_⟩
            obtain ⟨q1, q2⟩ := hE
            obtain ⟨p3, e3', x3⟩ := st3
            rcases q2 with ⟨q2, q3⟩ | ⟨y, q3, q4, q5⟩
            · simp only [Prod.mk.injEq] at q2
              obtain ⟨rfl, rfl⟩ := q2
              rw [q3] at e3
              simp only at e3
              refine ⟨fun hk => ?_, fun hk => ?_⟩
              · rw [if_pos hk] at e3
                exact ⟨q1, Or.inl ⟨p3, by rw [← hR, e3], rfl⟩⟩
              · rw [if_neg (by rw [hk]; decide)] at e3
                have e4 : flR (p3, 0, -1) 2 (p : Int) = (p3, 2, (p : Int)) := flR_ok
                show AtEnd S R (flR (p3, 0, -1) 2 (p : Int)) ∧ (flR (p3, 0, -1) 2 (p : Int)).2.1 ≠ 0
                rw [e4]
                exact ⟨⟨q1, Or.inr ⟨p, (by decide : (2 : Int) ≠ 0), rfl, by rw [← hR, e3]⟩⟩, (by decide : (2 : Int) ≠ 0)⟩
            · rw [q5] at e3
              simp only at e3
              have hRb : R = .bad e3' y := by rw [← hR, e3]
              refine ⟨fun _ => ⟨q1, Or.inr ⟨y, q3, q4, hRb⟩⟩, fun _ => ?_⟩
              rw [flR_bad (p3, e3', x3) _ _ q3]
              exact ⟨⟨q1, Or.inr ⟨y, q3, q4, hRb⟩⟩, q3⟩
  · left
    have he : e ≠ 0 := he
    have e1 : nmS S 0 (p, e, x) 2 = (p, e, x) := nm_bad S (p, e, x) 2 he
    have e2 : nmV S 0 (p, e, x) 2 = 0 := nmV_bad S (p, e, x) 2 he
    rw [e1, e2]
    exact ⟨rfl, hp, Or.inr ⟨x', he, hx, hR⟩⟩

end Go.Proofs.YtdjljnpbnhampaaDoor
