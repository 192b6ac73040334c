/- 13.1: one round of reading, plainly. -/
import Derived.Test.YticjmjoiggnblaaDoorTlHead
namespace Go.Proofs.YticjmjoiggnblaaDoor
set_option linter.unusedVariables false

def TlR.recs : TlR → List Tl
  | .bad _ _ => []
  | .ok l _ _ => l
def TlR.offs : TlR → List Nat
  | .bad _ _ => []
  | .ok _ a _ => a
def TlR.fin : TlR → Nat
  | .bad _ _ => 0
  | .ok _ _ e => e
def TlR.er : TlR → Int
  | .bad e _ => e
  | .ok _ _ _ => 0
def TlR.pl : TlR → Int
  | .bad _ p => p
  | .ok _ _ _ => -1
/-- What holds ahead of each round. -/
def RdInv (S : List UInt8) (R : TlR) (st : RSt) (l : List Tl) (a : List Nat) : Prop := st.1 ≤ S.length ∧ ((st.2 = (0, -1) ∧ (∃ f, rdTl S f st.1 l a = R ∧ S.length + 1 - st.1 ≤ f) ∧ 2 * l.length ≤ st.1) ∨ (∃ x : Nat, st.2.1 ≠ 0 ∧ st.2.2 = (x : Int) ∧ R = .bad st.2.1 x))
/-- The record that is read next. -/
def nxT (S : List UInt8) (st : RSt) : Tl := ⟨(nmV S 0 st 2 / 512 : Nat), ⟨(tkN S 0 (hdS S st) (nmV S 0 st 2 % 512 : Nat) false).1.toArray⟩⟩
def nxS (S : List UInt8) (st : RSt) : RSt := (tkN S 0 (hdS S st) (nmV S 0 st 2 % 512 : Nat) false).2
theorem hdS_le (S : List UInt8) (st : RSt) (h : st.1 ≤ S.length) : (hdS S st).1 ≤ S.length := by
  unfold hdS
  split
  · exact flR_le S _ _ _ (nmS_le S 0 st 2 h)
  · exact nmS_le S 0 st 2 h
theorem rd_round (S : List UInt8) (R : TlR) (st : RSt) (l : List Tl) (a : List Nat) (h : RdInv S R st l a) :
    (nmV S 0 st 2 / 512 = 0 ∧ (zrR S 0 (hdS S st)).1 = false ∧ (zrR S 0 (hdS S st)).2.2.1 ≠ 0 ∧ R.recs = [] ∧ R.offs = [] ∧ R.fin = 0 ∧ R.er = (zrR S 0 (hdS S st)).2.2.1 ∧ R.pl = (zrR S 0 (hdS S st)).2.2.2) ∨
    (nmV S 0 st 2 / 512 = 0 ∧ (zrR S 0 (hdS S st)).1 = true ∧ R = .ok l a st.1) ∨
    (nmV S 0 st 2 / 512 ≠ 0 ∧ 2 * l.length ≤ S.length ∧ st.2.1 = 0 ∧ RdInv S R (nxS S st) (l ++ [nxT S st]) (a ++ [st.1]) ∧ ((nxS S st).2.1 ≠ 0 ∨ st.1 < (nxS S st).1)) := by
  obtain ⟨p, e, x⟩ := st
  obtain ⟨hp, h⟩ := h
  have hp : p ≤ S.length := hp
  rcases h with ⟨hst, ⟨f, hR, hf⟩, hl⟩ | ⟨x', he, hx, hR⟩
  · simp only [Prod.mk.injEq] at hst
    obtain ⟨rfl, rfl⟩ := hst
    have hl : 2 * l.length ≤ p := hl
    obtain ⟨f, rfl⟩ : ∃ f', f = f' + 1 := ⟨f - 1, by have hf : S.length + 1 - p ≤ f := hf; omega⟩
    have hf : S.length + 1 - p ≤ f + 1 := hf
    have hR : rdTl S (f + 1) p l a = R := hR
    by_cases h0 : S.length < p + 2
    · left
      have e1 : nmS S 0 (p, 0, -1) 2 = (p, 7, (p : Int)) := nm_miss S (p, 0, -1) 2 (by decide) (by decide) rfl (by show ¬ p + 2 ≤ S.length; omega) hp
      have e2 : nmV S 0 (p, 0, -1) 2 = 0 := by
        unfold nmV
        rw [show (2 : Int) = ((2 : Nat) : Int) from rfl, tkN_miss S 0 (p, 0, -1) 2 true rfl (by show ¬ p + 2 ≤ S.length; omega) hp (by decide)]
        rfl
      have e3 : hdS S (p, 0, -1) = (p, 7, (p : Int)) := by unfold hdS; rw [e1, e2]; rfl
      rw [rd_miss h0] at hR
      subst hR
      rw [e2, e3, zrR_bad S 0 (p, 7, (p : Int)) (show (7 : Int) ≠ 0 by decide)]
      exact ⟨rfl, rfl, (by decide : (7 : Int) ≠ 0), rfl, rfl, rfl, rfl, rfl⟩
    · have g1 : nmS S 0 (p, 0, -1) 2 = (p + 2, 0, -1) ∧ nmV S 0 (p, 0, -1) 2 = beN ((S.drop p).take 2) := nm_go S (p, 0, -1) 2 (by decide) (by decide) rfl (by show p + 2 ≤ S.length; omega)
      obtain ⟨e1, e2⟩ := g1
      have e2 : nmV S 0 (p, 0, -1) 2 = hdN S p := e2
      have hn := hdN_lt S p
      by_cases h1 : hdN S p < 512
      · have e4 : hdN S p / 512 = 0 := by omega
        by_cases h2 : hdN S p ≠ 0
        · left
          have e3 : hdS S (p, 0, -1) = (p + 2, 3, (p : Int)) := by
            unfold hdS
            rw [e1, e2, if_pos ⟨e4, by omega⟩]
            rfl
          rw [rd_form h0 h1 h2] at hR
          subst hR
          rw [e2, e3, zrR_bad S 0 (p + 2, 3, (p : Int)) (show (3 : Int) ≠ 0 by decide)]
          exact ⟨e4, rfl, (by decide : (3 : Int) ≠ 0), rfl, rfl, rfl, rfl, rfl⟩
        · have h2 : hdN S p = 0 := by omega
          have e3 : hdS S (p, 0, -1) = (p + 2, 0, -1) := by
            unfold hdS
            rw [e1, e2, if_neg (fun q => q.2 (by omega))]
          by_cases h3 : p + 2 + lead (S.drop (p + 2)) = S.length
          · right; left
            rw [rd_end h0 h2 h3] at hR
            rw [e2, e3]
            have q : zrR S 0 (p + 2, 0, -1) = (true, S.length, (0, -1)) := by
              unfold zrR
              rw [if_neg (show ¬ (0 : Int) ≠ 0 by decide), if_pos h3]
            rw [q]
            exact ⟨e4, rfl, hR.symm⟩
          · left
            rw [rd_spoilt h0 h2 h3] at hR
            subst hR
            have q : zrR S 0 (p + 2, 0, -1) = (false, p + 2 + lead (S.drop (p + 2)), 15, ((0 : Nat) : Int) + (p + 2 + lead (S.drop (p + 2)) : Nat)) := by
              unfold zrR
              rw [if_neg (show ¬ (0 : Int) ≠ 0 by decide), if_neg h3]
            rw [e2, e3, q]
            refine ⟨e4, rfl, (by decide : (15 : Int) ≠ 0), rfl, rfl, rfl, rfl, ?_⟩
            show ((p + 2 + lead (S.drop (p + 2)) : Nat) : Int) = ((0 : Nat) : Int) + (p + 2 + lead (S.drop (p + 2)) : Nat)
            omega
      · right; right
        have e4 : hdN S p / 512 ≠ 0 := by omega
        have e3 : hdS S (p, 0, -1) = (p + 2, 0, -1) := by
          unfold hdS
          rw [e1, e2, if_neg (fun q => e4 q.1)]
        refine ⟨by rw [e2]; exact e4, by omega, rfl, ?_⟩
        by_cases h2 : S.length < p + 2 + hdN S p % 512
        · have q := tkN_miss S 0 (p + 2, 0, -1) (hdN S p % 512) false rfl (by show ¬ p + 2 + hdN S p % 512 ≤ S.length; omega) (by show p + 2 ≤ S.length; omega) (fun q => by cases q)
          rw [rd_cut h0 h1 h2] at hR
          have e5 : nxS S (p, 0, -1) = (p + 2, 7, ((0 : Nat) : Int) + (p + 2 : Nat)) := by
            unfold nxS
            rw [e2, e3, q]
          rw [e5]
          refine ⟨⟨by show p + 2 ≤ S.length; omega, Or.inr ⟨p + 2, (by decide : (7 : Int) ≠ 0), ?_, hR.symm⟩⟩, Or.inl (by decide : (7 : Int) ≠ 0)⟩
          show ((0 : Nat) : Int) + (p + 2 : Nat) = ((p + 2 : Nat) : Int)
          omega
        · have q := tkN_go S 0 (p + 2, 0, -1) (hdN S p % 512) false rfl (by show p + 2 + hdN S p % 512 ≤ S.length; omega) (fun q => by cases q)
          rw [rd_step h0 h1 h2] at hR
          have e5 : nxS S (p, 0, -1) = (p + 2 + hdN S p % 512, 0, -1) := by
            unfold nxS
            rw [e2, e3, q]
          have e6 : nxT S (p, 0, -1) = tlAt S p := by
            unfold nxT tlAt
            rw [e2, e3, q]
          rw [e5, e6]
          refine ⟨⟨by show p + 2 + hdN S p % 512 ≤ S.length; omega, Or.inl ⟨rfl, ⟨f, hR, by show S.length + 1 - (p + 2 + hdN S p % 512) ≤ f; omega⟩, ?_⟩⟩, Or.inr (by show p < p + 2 + hdN S p % 512; omega)⟩
          show 2 * (l ++ [tlAt S p]).length ≤ p + 2 + hdN S p % 512
          simp
          omega
  · left
    have he : e ≠ 0 := he
    have e1 : nmS S 0 (p, e, x) 2 = (p, e, x) := nm_bad S (p, e, x) 2 he
    have e2 : nmV S 0 (p, e, x) 2 = 0 := by
      unfold nmV
      rw [tkN_bad S 0 (p, e, x) 2 true he]
      rfl
    have e3 : hdS S (p, e, x) = (p, e, x) := by unfold hdS; rw [e1, e2]; rfl
    have hx : x = (x' : Int) := hx
    have hR : R = .bad e x' := hR
    subst hR
    rw [e2, e3, zrR_bad S 0 (p, e, x) he]
    exact ⟨rfl, rfl, he, rfl, rfl, rfl, rfl, hx.symm⟩
theorem inv_start (S : List UInt8) : RdInv S (rdAll S) (0, 0, -1) [] [] := ⟨Nat.zero_le _, Or.inl ⟨rfl, ⟨S.length + 1, rfl, by show S.length + 1 - 0 ≤ _; omega⟩, by simp⟩⟩

end Go.Proofs.YticjmjoiggnblaaDoor
