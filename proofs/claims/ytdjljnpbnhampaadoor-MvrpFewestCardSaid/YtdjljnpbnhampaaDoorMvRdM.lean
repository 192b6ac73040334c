/- 16.2: a reader's states beside the plain answer: events, attributes, heads. -/
import Derived.Test.YtdjljnpbnhampaaDoorMvBackM
import Derived.Test.YtdjljnpbnhampaaDoorNumK
import Derived.Test.YtdjljnpbnhampaaDoorRdZ
namespace Go.Proofs.YtdjljnpbnhampaaDoor
set_option linter.unusedVariables false

theorem flR_twice (st : RSt) (e p e' p' : Int) (h : e ≠ 0) : flR (flR st e p) e' p' = flR st e p := flR_bad _ _ _ (flR_ne st e p h)

theorem flR_ok {p : Nat} {x e pl : Int} : flR (p, 0, x) e pl = (p, e, pl) := by unfold flR; simp

/-- The three events that are read next, and the state behind them. -/
def gpL (S : List UInt8) (st : RSt) : List Int := if 215 < nmV S 0 st 1 then [0, 0, 0] else trip (nmV S 0 st 1)

def gpS (S : List UInt8) (st : RSt) : RSt := if 215 < nmV S 0 st 1 then flR (nmS S 0 st 1) 2 st.1 else nmS S 0 st 1

theorem gpL_len (S : List UInt8) (st : RSt) : (gpL S st).length = 3 := by unfold gpL; split <;> rfl

theorem gpS_le (S : List UInt8) (st : RSt) (h : st.1 ≤ S.length) : (gpS S st).1 ≤ S.length := by
  unfold gpS
  split
  · exact flR_le S _ _ _ (nmS_le S 0 st 1 h)
  · exact nmS_le S 0 st 1 h

/-- Those that must be noughts. -/
def spS (st : RSt) (at' : Nat) (l : List Int) : RSt := if l.all (fun x => x == 0) = true then st else flR st 15 at'

theorem spS_nil (st : RSt) (a : Nat) : spS st a [] = st := rfl

theorem spS_snoc0 (st : RSt) (a : Nat) (l : List Int) : spS st a (l ++ [0]) = spS st a l := by unfold spS; simp

theorem spS_snoc (st : RSt) (a : Nat) (l : List Int) (x : Int) (h : x ≠ 0) : spS st a (l ++ [x]) = flR (spS st a l) 15 a := by
  have e : (l ++ [x]).all (fun x => x == 0) = false := by simp [h]
  unfold spS
  rw [e]
  simp only [Bool.false_eq_true, if_false]
  split
  · rfl
  · rw [flR_twice _ _ _ _ _ (by decide)]

theorem spS_le (S : List UInt8) (st : RSt) (a : Nat) (l : List Int) (h : st.1 ≤ S.length) : (spS st a l).1 ≤ S.length := by
  unfold spS
  split
  · exact h
  · exact flR_le S _ _ _ h

/-- What holds ahead of each byte of events. -/
def EvI (S : List UInt8) (n : Nat) (R : EvR) (st : RSt) (l : List Int) : Prop := st.1 ≤ S.length ∧ l.length ≤ n ∧ ((st.2 = (0, -1) ∧ ∃ f, rdEv S n f st.1 l = R ∧ n ≤ l.length + f) ∨ (∃ x : Nat, st.2.1 ≠ 0 ∧ st.2.2 = (x : Int) ∧ R = .bad st.2.1 x))

theorem nm1_go (S : List UInt8) (p : Nat) (x : Int) (h : p + 1 ≤ S.length) : nmS S 0 (p, 0, x) 1 = (p + 1, 0, x) ∧ nmV S 0 (p, 0, x) 1 = by1 S p := nm_go S (p, 0, x) 1 (by decide) (by decide) rfl h

theorem nmV_bad (S : List UInt8) (st : RSt) (n : Int) (h : st.2.1 ≠ 0) : nmV S 0 st n = 0 := by
  unfold nmV
  rw [tkN_bad S 0 st n true h]
  rfl

theorem nmV_miss (S : List UInt8) (p : Nat) (x : Int) (n : Nat) (h1 : 1 ≤ n) (h8 : n ≤ 8) (hn : ¬ p + n ≤ S.length) (hp : p ≤ S.length) : nmV S 0 (p, 0, x) n = 0 := by
  unfold nmV
  rw [tkN_miss S 0 (p, 0, x) n true rfl hn hp (fun _ => ⟨h1, h8⟩)]
  rfl

theorem trip0 : trip 0 = [0, 0, 0] := rfl

theorem zeros3 (k : Nat) : (([0, 0, 0] : List Int).drop k).all (fun x => x == 0) = true := by
  rw [List.all_eq_true]
  intro x hx
  have hx := List.mem_of_mem_drop hx
  simp only [List.mem_cons, List.not_mem_nil, or_false] at hx
  rcases hx with rfl | rfl | rfl <;> rfl

theorem ev_round (S : List UInt8) (n : Nat) (R : EvR) (st : RSt) (l : List Int) (h : EvI S n R st l) (hl : l.length < n) :
    EvI S n R (spS (gpS S st) st.1 ((gpL S st).drop (n - l.length))) (l ++ (gpL S st).take (n - l.length)) := by
  obtain ⟨p, e, x⟩ := st
  obtain ⟨hp, hln, h⟩ := h
  have hp : p ≤ S.length := hp
  have hlen : (l ++ (gpL S (p, e, x)).take (n - l.length)).length ≤ n := by
    rw [List.length_append, List.length_take, gpL_len]
    omega
  refine ⟨spS_le S _ _ _ (gpS_le S _ hp), hlen, ?_⟩
  rcases h with ⟨hst, f, hR, hf⟩ | ⟨x', he, hx, hR⟩
  · simp only [Prod.mk.injEq] at hst
    obtain ⟨rfl, rfl⟩ := hst
    have hR : rdEv S n f p l = R := hR
    obtain ⟨f, rfl⟩ : ∃ f', f = f' + 1 := ⟨f - 1, by omega⟩
    by_cases h1 : S.length < p + 1
    · right
      have e1 : nmS S 0 (p, 0, -1) 1 = (p, 7, (p : Int)) := nm_miss S (p, 0, -1) 1 (by decide) (by decide) rfl (by show ¬ p + 1 ≤ S.length; omega) hp
      have e2 : nmV S 0 (p, 0, -1) 1 = 0 := nmV_miss S p (-1) 1 (by decide) (by decide) (by omega) hp
      have e3 : gpS S (p, 0, -1) = (p, 7, (p : Int)) := by unfold gpS; rw [e1, e2]; rfl
      have e4 : gpL S (p, 0, -1) = [0, 0, 0] := by unfold gpL; rw [e2]; rfl
      rw [ev_miss (by omega) h1] at hR
      rw [e3, e4]
      have e5 : spS (p, 7, (p : Int)) p (([0, 0, 0] : List Int).drop (n - l.length)) = (p, 7, (p : Int)) := by unfold spS; rw [if_pos (zeros3 _)]
      rw [e5]
      exact ⟨p, (by decide : (7 : Int) ≠ 0), rfl, hR.symm⟩
    · obtain ⟨e1, e2⟩ := nm1_go S p (-1) (by omega)
      by_cases h2 : 215 < by1 S p
      · right
        have e3 : gpS S (p, 0, -1) = (p + 1, 2, (p : Int)) := by unfold gpS; rw [e1, e2, if_pos h2]; rfl
        have e4 : gpL S (p, 0, -1) = [0, 0, 0] := by unfold gpL; rw [e2, if_pos h2]
        rw [ev_range (by omega) h1 h2] at hR
        have e5 : spS (p + 1, 2, (p : Int)) p (([0, 0, 0] : List Int).drop (n - l.length)) = (p + 1, 2, (p : Int)) := by unfold spS; rw [if_pos (zeros3 _)]
        rw [e3, e4, e5]
        exact ⟨p, (by decide : (2 : Int) ≠ 0), rfl, hR.symm⟩
      · have e3 : gpS S (p, 0, -1) = (p + 1, 0, -1) := by unfold gpS; rw [e1, e2, if_neg h2]
        have e4 : gpL S (p, 0, -1) = trip (by1 S p) := by unfold gpL; rw [e2, if_neg h2]
        rw [e3, e4]
        by_cases h3 : ((trip (by1 S p)).drop (n - l.length)).all (fun x => x == 0) = false
        · right
          rw [ev_spoilt (by omega) h1 h2 h3] at hR
          have e5 : spS (p + 1, 0, -1) p ((trip (by1 S p)).drop (n - l.length)) = (p + 1, 15, (p : Int)) := by unfold spS; rw [h3]; rfl
          rw [e5]
          exact ⟨p, (by decide : (15 : Int) ≠ 0), rfl, hR.symm⟩
        · left
          have h3 : ((trip (by1 S p)).drop (n - l.length)).all (fun x => x == 0) = true := by simpa using h3
          rw [ev_step (by omega) h1 h2 h3] at hR
          have e5 : spS (p + 1, 0, -1) p ((trip (by1 S p)).drop (n - l.length)) = (p + 1, 0, -1) := by unfold spS; rw [if_pos h3]
          rw [e5]
          refine ⟨rfl, f, hR, ?_⟩
          rw [List.length_append, List.length_take, trip_len]
          omega
  · right
    have he : e ≠ 0 := he
    have e1 : nmS S 0 (p, e, x) 1 = (p, e, x) := nm_bad S (p, e, x) 1 he
    have e2 : nmV S 0 (p, e, x) 1 = 0 := nmV_bad S (p, e, x) 1 he
    have e3 : gpS S (p, e, x) = (p, e, x) := by unfold gpS; rw [e1, e2]; rfl
    have e4 : gpL S (p, e, x) = [0, 0, 0] := by unfold gpL; rw [e2]; rfl
    have e5 : spS (p, e, x) p (([0, 0, 0] : List Int).drop (n - l.length)) = (p, e, x) := by unfold spS; rw [if_pos (zeros3 _)]
    rw [e3, e4, e5]
    exact ⟨x', he, hx, hR⟩

theorem ev_final (S : List UInt8) (n : Nat) (R : EvR) (st : RSt) (l : List Int) (h : EvI S n R st l) (hl : ¬ l.length < n) : l.length = n ∧ st.1 ≤ S.length ∧ ((st.2 = (0, -1) ∧ R = .ok l st.1) ∨ (∃ x : Nat, st.2.1 ≠ 0 ∧ st.2.2 = (x : Int) ∧ R = .bad st.2.1 x)) := by
  obtain ⟨hp, hln, h⟩ := h
  refine ⟨by omega, hp, ?_⟩
  rcases h with ⟨hst, f, hR, hf⟩ | h
  · rw [ev_end (by omega)] at hR
    exact Or.inl ⟨hst, hR.symm⟩
  · exact Or.inr h

end Go.Proofs.YtdjljnpbnhampaaDoor
