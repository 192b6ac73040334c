/- 16.2: messages beside the plain answer. -/
import Derived.Test.YtdjljnpbnhampaaDoorMvHead
import Derived.Test.YtdjljnpbnhampaaDoorMvAttrM
namespace Go.Proofs.YtdjljnpbnhampaaDoor
set_option linter.unusedVariables false

/-- What holds ahead of a message (none), or within the one that begins at m. -/
def MvI (S : List UInt8) (R : MvR) (mo : Option Nat) (st : RSt) (l : List Mv) : Prop :=
  st.1 ≤ S.length ∧ ((st.2 = (0, -1) ∧ l.length ≤ 40 ∧ ∃ f, rdMv S f mo st.1 l = R ∧ S.length + 1 ≤ st.1 + f) ∨ (l.length ≤ 41 ∧ ∃ x : Nat, st.2.1 ≠ 0 ∧ st.2.2 = (x : Int) ∧ R = .bad st.2.1 x))

theorem mvI_len {S : List UInt8} {R : MvR} {mo : Option Nat} {st : RSt} {l : List Mv} (h : MvI S R mo st l) : l.length ≤ 41 := by
  rcases h.2 with ⟨_, h, _⟩ | ⟨h, _⟩ <;> omega

theorem take1 {S : List UInt8} {p : Nat} (h : p + 1 ≤ S.length) : ∃ b, (S.drop p).take 1 = [b] ∧ by1 S p = b.toNat := by
  have hl : ((S.drop p).take 1).length = 1 := by rw [List.length_take, List.length_drop]; omega
  obtain ⟨b, hb⟩ := List.length_eq_one_iff.1 hl
  refine ⟨b, hb, ?_⟩
  unfold by1
  rw [hb]
  simp [beN]

theorem h1_go {S : List UInt8} {p : Nat} {x : Int} (h : p + 1 ≤ S.length) : h1T S (p, 0, x) = (S.drop p).take 1 ∧ h1S S (p, 0, x) = (p + 1, 0, x) := by
  have e := tkN_go S 0 (p, 0, x) 1 false rfl h (fun q => by cases q)
  unfold h1T h1S
  rw [show (1 : Int) = ((1 : Nat) : Int) from rfl, e]
  exact ⟨rfl, rfl⟩

theorem h1_miss {S : List UInt8} {p : Nat} {x : Int} (h : ¬ p + 1 ≤ S.length) (hp : p ≤ S.length) : h1T S (p, 0, x) = [] ∧ h1S S (p, 0, x) = (p, 7, (p : Int)) := by
  have e := tkN_miss S 0 (p, 0, x) 1 false rfl h hp (fun q => by cases q)
  unfold h1T h1S
  rw [show (1 : Int) = ((1 : Nat) : Int) from rfl, e]
  exact ⟨rfl, by simp⟩

theorem h1_bad {S : List UInt8} {st : RSt} (h : st.2.1 ≠ 0) : h1T S st = [] ∧ h1S S st = st := by
  unfold h1T h1S
  rw [tkN_bad S 0 st 1 false h]
  exact ⟨rfl, rfl⟩

theorem h2_is (S : List UInt8) (st : RSt) : h2T S st = h1T S (h1S S st) ∧ h2S S st = h1S S (h1S S st) := ⟨rfl, rfl⟩

theorem toNat_eq {b : UInt8} {n : Nat} (hn : n < 256) : b.toNat = n ↔ b = UInt8.ofNat n := by
  constructor
  · intro h
    rw [← h]
    simp
  · intro h
    rw [h, UInt8.toNat_ofNat']
    omega

theorem mhS_stuck {S : List UInt8} {st : RSt} (h : (h2S S st).2.1 ≠ 0) (hn : (h1T S st ++ h2T S st).length ≤ 1) : mhV S st = false ∧ mhS S st = h2S S st := by
  have n12 : ¬ h1T S st ++ h2T S st = [1, 2] := fun e => by rw [e] at hn; simp at hn
  have n00 : ¬ h1T S st ++ h2T S st = [0, 0] := fun e => by rw [e] at hn; simp at hn
  refine ⟨decide_eq_false n12, ?_⟩
  unfold mhS
  rw [if_neg n12, if_neg n00]
  split
  · exact flR_bad _ _ _ h
  · exact flR_bad _ _ _ h

/-- What reading ends in, behind the noughts. -/
def MvEnd (R : MvR) (z : Bool × RSt) (l : List Mv) : Prop := (z.1 = true ∧ R = .ok l) ∨ (z.1 = false ∧ z.2.2.1 ≠ 0 ∧ ∃ x : Nat, z.2.2.2 = (x : Int) ∧ R = .bad z.2.2.1 x)

theorem head_round (S : List UInt8) (R : MvR) (st : RSt) (l : List Mv) (h : MvI S R none st l) :
    (mhV S st = true → MvI S R (some st.1) (mhS S st) l ∧ st.2.1 = 0 ∧ st.1 < (mhS S st).1) ∧ (mhV S st = false → MvEnd R (zrR S 0 (mhS S st)) l) := by
  obtain ⟨p, e, x⟩ := st
  obtain ⟨hp, h⟩ := h
  have hp : p ≤ S.length := hp
  rcases h with ⟨hst, hl, f, hR, hf⟩ | ⟨hl, x', he, hx, hR⟩
  · simp only [Prod.mk.injEq] at hst
    obtain ⟨rfl, rfl⟩ := hst
    have hR : rdMv S f none p l = R := hR
    have hf : S.length + 1 ≤ p + f := hf
    obtain ⟨f, rfl⟩ : ∃ f', f = f' + 1 := ⟨f - 1, by omega⟩
    by_cases h0 : S.length < p + 1
    · obtain ⟨a1, a2⟩ := h1_miss (x := -1) (show ¬ p + 1 ≤ S.length by omega) hp
      obtain ⟨b1, b2⟩ := h1_bad (S := S) (st := (p, 7, (p : Int))) (show (7 : Int) ≠ 0 by decide)
      obtain ⟨c1, c2⟩ := h2_is S (p, 0, -1)
      rw [a2, b1] at c1
      rw [a2, b2] at c2
      obtain ⟨m1, m2⟩ := mhS_stuck (S := S) (st := (p, 0, -1)) (by rw [c2]; show (7 : Int) ≠ 0; decide) (by rw [a1, c1]; simp)
      rw [mv_miss h0] at hR
      refine ⟨fun q => (by rw [m1] at q; cases q), fun _ => ?_⟩
      rw [m2, c2, zrR_bad S 0 (p, 7, (p : Int)) (show (7 : Int) ≠ 0 by decide)]
      exact Or.inr ⟨rfl, (by decide : (7 : Int) ≠ 0), p, rfl, hR.symm⟩
    · obtain ⟨a1, a2⟩ := h1_go (x := -1) (show p + 1 ≤ S.length by omega)
      obtain ⟨b, hb, hbn⟩ := take1 (show p + 1 ≤ S.length by omega)
      rw [hb] at a1
      by_cases h1 : S.length < p + 2
      · obtain ⟨b1, b2⟩ := h1_miss (x := -1) (show ¬ p + 1 + 1 ≤ S.length by omega) (show p + 1 ≤ S.length by omega)
        obtain ⟨c1, c2⟩ := h2_is S (p, 0, -1)
        rw [a2, b1] at c1
        rw [a2, b2] at c2
        obtain ⟨m1, m2⟩ := mhS_stuck (S := S) (st := (p, 0, -1)) (by rw [c2]; show (7 : Int) ≠ 0; decide) (by rw [a1, c1]; simp)
        rw [mv_miss2 h0 h1] at hR
        refine ⟨fun q => (by rw [m1] at q; cases q), fun _ => ?_⟩
        rw [m2, c2, zrR_bad S 0 (p + 1, 7, ((p + 1 : Nat) : Int)) (show (7 : Int) ≠ 0 by decide)]
        exact Or.inr ⟨rfl, (by decide : (7 : Int) ≠ 0), p + 1, rfl, hR.symm⟩
      · obtain ⟨b1, b2⟩ := h1_go (x := -1) (show p + 1 + 1 ≤ S.length by omega)
        obtain ⟨c, hc, hcn⟩ := take1 (show p + 1 + 1 ≤ S.length by omega)
        rw [hc] at b1
        obtain ⟨c1, c2⟩ := h2_is S (p, 0, -1)
        rw [a2, b1] at c1
        rw [a2, b2] at c2
        have c2 : h2S S (p, 0, -1) = (p + 2, 0, -1) := c2
        have hT : h1T S (p, 0, -1) ++ h2T S (p, 0, -1) = [b, c] := by rw [a1, c1]; rfl
        by_cases q12 : b = 1 ∧ c = 2
        · obtain ⟨rfl, rfl⟩ := q12
          have m1 : mhV S (p, 0, -1) = true := by unfold mhV; rw [hT]; rfl
          have m2 : mhS S (p, 0, -1) = (p + 2, 0, -1) := by unfold mhS; rw [hT, if_pos rfl, c2]
          rw [mv_head (by omega) (by rw [hbn]; rfl) (by rw [hcn]; rfl)] at hR
          refine ⟨fun _ => ?_, fun q => (by rw [m1] at q; cases q)⟩
          rw [m2]
          exact ⟨⟨by show p + 2 ≤ S.length; omega, Or.inl ⟨rfl, hl, f, hR, by show S.length + 1 ≤ p + 2 + f; omega⟩⟩, rfl, by show p < p + 2; omega⟩
        · have n12 : ¬ ([b, c] : List UInt8) = [1, 2] := fun q => by
            simp only [List.cons.injEq, and_true] at q
            exact q12 q
          have m1 : mhV S (p, 0, -1) = false := by unfold mhV; rw [hT]; exact decide_eq_false n12
          refine ⟨fun q => (by rw [m1] at q; cases q), fun _ => ?_⟩
          by_cases q00 : b = 0 ∧ c = 0
          · obtain ⟨rfl, rfl⟩ := q00
            have m2 : mhS S (p, 0, -1) = (p + 2, 0, -1) := by unfold mhS; rw [hT, if_neg (by decide), if_pos rfl, c2]
            rw [m2]
            by_cases h3 : p + 2 + lead (S.drop (p + 2)) = S.length
            · rw [mv_end (by omega) (by rw [hbn]; rfl) (by rw [hcn]; rfl) h3] at hR
              have q : zrR S 0 (p + 2, 0, -1) = (true, S.length, (0, -1)) := by
                unfold zrR
                rw [if_neg (show ¬ (0 : Int) ≠ 0 by decide), if_pos h3]
              rw [q]
              exact Or.inl ⟨rfl, hR.symm⟩
            · rw [mv_spoilt (by omega) (by rw [hbn]; rfl) (by rw [hcn]; rfl) h3] at hR
              have q : zrR S 0 (p + 2, 0, -1) = (false, p + 2 + lead (S.drop (p + 2)), 15, ((0 : Nat) : Int) + (p + 2 + lead (S.drop (p + 2)) : Nat)) := by
                unfold zrR
                rw [if_neg (show ¬ (0 : Int) ≠ 0 by decide), if_neg h3]
              rw [q]
              exact Or.inr ⟨rfl, (by decide : (15 : Int) ≠ 0), p + 2 + lead (S.drop (p + 2)), by show ((0 : Nat) : Int) + _ = _; omega, hR.symm⟩
          · have n00 : ¬ ([b, c] : List UInt8) = [0, 0] := fun q => by
              simp only [List.cons.injEq, and_true] at q
              exact q00 q
            have k00 : ¬ (by1 S p = 0 ∧ by1 S (p + 1) = 0) := fun q => by
              rw [hbn, hcn] at q
              exact q00 ⟨(toNat_eq (by decide)).1 q.1, (toNat_eq (by decide)).1 q.2⟩
            by_cases q1 : b = 1
            · subst q1
              have hc2 : by1 S (p + 1) ≠ 2 := fun q => by
                rw [hcn] at q
                exact q12 ⟨rfl, (toNat_eq (by decide)).1 q⟩
              have m2 : mhS S (p, 0, -1) = (p + 2, 3, ((p + 1 : Nat) : Int)) := by
                unfold mhS
                rw [hT, if_neg n12, if_neg n00, a1, if_pos rfl, c2]
                exact flR_ok
              rw [mv_form (by omega) (by rw [hbn]; rfl) hc2] at hR
              rw [m2, zrR_bad S 0 (p + 2, 3, ((p + 1 : Nat) : Int)) (show (3 : Int) ≠ 0 by decide)]
              exact Or.inr ⟨rfl, (by decide : (3 : Int) ≠ 0), p + 1, rfl, hR.symm⟩
            · have hb1 : by1 S p ≠ 1 := fun q => by
                rw [hbn] at q
                exact q1 ((toNat_eq (by decide)).1 q)
              have m2 : mhS S (p, 0, -1) = (p + 2, 5, (p : Int)) := by
                unfold mhS
                rw [hT, if_neg n12, if_neg n00, a1, if_neg (fun q => by simp only [List.cons.injEq, and_true] at q; exact q1 q), c2]
                exact flR_ok
              rw [mv_name (by omega) k00 hb1] at hR
              rw [m2, zrR_bad S 0 (p + 2, 5, (p : Int)) (show (5 : Int) ≠ 0 by decide)]
              exact Or.inr ⟨rfl, (by decide : (5 : Int) ≠ 0), p, rfl, hR.symm⟩
  · have he : e ≠ 0 := he
    obtain ⟨a1, a2⟩ := h1_bad (S := S) (st := (p, e, x)) he
    obtain ⟨c1, c2⟩ := h2_is S (p, e, x)
    rw [a2] at c1 c2
    rw [a1] at c1
    rw [a2] at c2
    obtain ⟨m1, m2⟩ := mhS_stuck (S := S) (st := (p, e, x)) (by rw [c2]; exact he) (by rw [a1, c1]; simp)
    refine ⟨fun q => (by rw [m1] at q; cases q), fun _ => ?_⟩
    rw [m2, c2, zrR_bad S 0 (p, e, x) he]
    exact Or.inr ⟨rfl, he, x', hx, hR⟩

/-- What is read of a message next. -/
def nxA (S : List UInt8) (st : RSt) : AtR := if st.2.1 ≠ 0 then .bad st.2.1 st.2.2.toNat else rdAt S st.1

/-- Behind an attribute: there may be too many. -/
def lmS (st : RSt) (m : Nat) (n : Nat) : RSt := if 40 < n then flR st 4 m else st

theorem attr_round (S : List UInt8) (R : MvR) (m : Nat) (st : RSt) (l : List Mv) (h : MvI S R (some m) st l) :
    AtI S (nxA S st) st ∧ (∀ st', AtEnd S (nxA S st) st' → MvI S R none st' l) ∧
    (∀ x st', AtOut S (nxA S st) x st' → st'.2.1 = 0 → MvI S R (some m) (lmS st' m (l ++ [x]).length) (l ++ [x]) ∧ st.2.1 = 0 ∧ st.1 < st'.1 ∧ l.length ≤ 40) := by
  obtain ⟨p, e, x⟩ := st
  obtain ⟨hp, h⟩ := h
  have hp : p ≤ S.length := hp
  rcases h with ⟨hst, hl, f, hR, hf⟩ | ⟨hl, x', he, hx, hR⟩
  · simp only [Prod.mk.injEq] at hst
    obtain ⟨rfl, rfl⟩ := hst
    have hR : rdMv S f (some m) p l = R := hR
    have hf : S.length + 1 ≤ p + f := hf
    obtain ⟨f, rfl⟩ : ∃ f', f = f' + 1 := ⟨f - 1, by omega⟩
    have hN : nxA S (p, 0, -1) = rdAt S p := by unfold nxA; rw [if_neg (show ¬ (0 : Int) ≠ 0 by decide)]
    rw [hN]
    refine ⟨⟨hp, Or.inl ⟨rfl, rfl⟩⟩, fun st' hE => ?_, fun y st' hO h0 => ?_⟩
    · obtain ⟨q1, ⟨q, hA, rfl⟩ | ⟨z, z1, z2, hA⟩⟩ := hE
      · rw [mv_fin hA] at hR
        obtain ⟨_, _, hq⟩ := at_fin hA
        have q1 : q ≤ S.length := q1
        exact ⟨q1, Or.inl ⟨rfl, hl, f, hR, by show S.length + 1 ≤ q + f; omega⟩⟩
      · rw [mv_bad hA] at hR
        exact ⟨q1, Or.inr ⟨by omega, z, z1, z2, hR.symm⟩⟩
    · obtain ⟨q1, ⟨q, hA, rfl⟩ | ⟨z, z1, z2, hA⟩⟩ := hO
      · obtain ⟨_, hq, hqs, hq4⟩ := at_got hA
        refine ⟨?_, rfl, by show p < q; omega, hl⟩
        unfold lmS
        by_cases h40 : 40 < (l ++ [y]).length
        · rw [mv_many hA h40] at hR
          rw [if_pos h40]
          have e4 : flR (q, 0, -1) 4 (m : Int) = (q, 4, (m : Int)) := flR_ok
          rw [e4]
          exact ⟨hqs, Or.inr ⟨by rw [List.length_append]; show l.length + 1 ≤ 41; omega, m, (by decide : (4 : Int) ≠ 0), rfl, hR.symm⟩⟩
        · rw [mv_got hA h40] at hR
          rw [if_neg h40]
          exact ⟨hqs, Or.inl ⟨rfl, by omega, f, hR, by show S.length + 1 ≤ q + f; omega⟩⟩
      · exact absurd h0 z1
  · have he : e ≠ 0 := he
    have hx : x = (x' : Int) := hx
    have hN : nxA S (p, e, x) = .bad e x' := by
      unfold nxA
      rw [if_pos (show e ≠ 0 from he), hx]
      rfl
    rw [hN]
    refine ⟨⟨hp, Or.inr ⟨x', he, hx, rfl⟩⟩, fun st' hE => ?_, fun y st' hO h0 => ?_⟩
    · obtain ⟨q1, ⟨q, hA, _⟩ | ⟨z, z1, z2, hA⟩⟩ := hE
      · cases hA
      · injection hA with hA1 hA2
        refine ⟨q1, Or.inr ⟨by omega, x', z1, by rw [z2, hA2], ?_⟩⟩
        rw [hR, ← hA1]
    · obtain ⟨q1, ⟨q, hA, _⟩ | ⟨z, z1, z2, hA⟩⟩ := hO
      · cases hA
      · exact absurd h0 z1

theorem mv_start (S : List UInt8) : MvI S (rdMvs S) none (exS S (0, 0, -1) [0]) [] := by
  by_cases h0 : S.length < 1
  · have e1 := ex_miss S (0, 0, -1) [0] (by simp) rfl (by show ¬ 0 + 1 ≤ S.length; omega) (Nat.zero_le _)
    have e2 : rdMvs S = .bad 7 0 := by unfold rdMvs; rw [if_pos h0]
    rw [e1, e2]
    exact ⟨Nat.zero_le _, Or.inr ⟨by simp, 0, (by decide : (7 : Int) ≠ 0), rfl, rfl⟩⟩
  · obtain ⟨b, hb, hbn⟩ := take1 (S := S) (p := 0) (by omega)
    by_cases h1 : b = 0
    · subst h1
      have e1 := ex_go S (0, 0, -1) [0] rfl (by show 0 + 1 ≤ S.length; omega) hb
      have e2 : rdMvs S = rdMv S (S.length + 1) none 1 [] := by unfold rdMvs; rw [if_neg h0, if_neg (by rw [hbn]; decide)]
      rw [e1, e2]
      exact ⟨by show 0 + 1 ≤ S.length; omega, Or.inl ⟨rfl, by simp, S.length + 1, rfl, by show S.length + 1 ≤ 0 + 1 + (S.length + 1); omega⟩⟩
    · have hne : ¬ ((S.drop 0).take ([0] : List UInt8).length) = [0] := fun q => by
        have q : (S.drop 0).take 1 = [0] := q
        rw [hb] at q
        simp only [List.cons.injEq, and_true] at q
        exact h1 q
      have e1 := ex_form S (0, 0, -1) [0] rfl (by show 0 + 1 ≤ S.length; omega) hne
      have e3 := exS_le S (0, 0, -1) [0] (Nat.zero_le _)
      have e2 : rdMvs S = .bad 3 0 := by
        unfold rdMvs
        rw [if_neg h0, if_pos (fun q => by rw [hbn] at q; exact h1 ((toNat_eq (by decide)).1 q))]
      rw [e2]
      refine ⟨e3, Or.inr ⟨by simp, 0, ?_, ?_, ?_⟩⟩
      · rw [e1]; decide
      · rw [e1] <;> rfl
      · rw [e1] <;> rfl

end Go.Proofs.YtdjljnpbnhampaaDoor
