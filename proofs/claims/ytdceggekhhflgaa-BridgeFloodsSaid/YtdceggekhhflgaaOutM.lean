/- Where frames go, plainly. -/
import Derived.Test.YtdceggekhhflgaaSrvM
namespace Go.Proofs.Ytdceggekhhflgaa
open Go.RowKit
set_option linter.unusedSimpArgs false
set_option linter.unusedVariables false
set_option maxRecDepth 100000

theorem outM_sorted (at_ port vid : Int) (ps : List Ps) : (outM at_ port vid ps).Pairwise (· < ·) := by
  unfold outM
  exact List.pairwise_lt_range.filter _

theorem outM_mem {at_ port vid : Int} {ps : List Ps} {i : Nat} (h : i ∈ outM at_ port vid ps) : i < ps.length ∧ leavesB at_ port vid i (ps.getD i zPs) = true := by
  unfold outM at h
  have := List.mem_filter.1 h
  exact ⟨List.mem_range.1 this.1, this.2⟩

theorem leavesB_iff {at_ port vid : Int} {i : Nat} {p : Ps} : leavesB at_ port vid i p = true ↔ (i : Int) ≠ port ∧ (at_ < 0 ∨ (i : Int) = at_) ∧ p.st = 3 ∧ memB p.inn vid = true := by
  unfold leavesB
  simp only [Bool.and_eq_true, Bool.or_eq_true, bne_iff_ne, decide_eq_true_eq, beq_iff_eq]
  constructor
  · rintro ⟨⟨h1, h2⟩, h3, h4⟩
    exact ⟨h1, h2, h3, h4⟩
  · rintro ⟨h1, h2, h3, h4⟩
    exact ⟨⟨h1, h2⟩, h3, h4⟩

/-- What is known of a port by which a trip's frame leaves. -/
structure OutOk (ps : List Ps) (k : Nat) (vid : Int) (i : Nat) : Prop where
  lt : i < ps.length
  ne : i ≠ k
  st : (ps.getD i zPs).st = 3
  mem : memB (ps.getD i zPs).inn vid = true
  stk : (ps.getD k zPs).st = 3
  vid0 : vid ≠ 0

theorem in_out {ps : List Ps} (h : ∀ p ∈ ps, okPs p = true) {k : Nat} (hk : k < ps.length) (h8 : ps.length ≤ 8) {last now : Int} (h0 : 0 ≤ last) (h1 : last ≤ now) (h2 : now ≤ 1000000) (E : List Ent) (t : Tr) (ta : Option Addr) (tc : Nat) :
    (inM ps 100 last E (k : Int) (carF t ta tc) now).out.Pairwise (· < ·) ∧ ∀ i ∈ (inM ps 100 last E (k : Int) (carF t ta tc) now).out, OutOk ps k (vidM ps (k : Int) (tagM t)) i := by
  rcases in_cases h hk h8 h0 h1 h2 E t ta tc with ⟨_, e⟩ | ⟨_, hv, _, e⟩ <;> rw [e]
  · exact ⟨List.Pairwise.nil, by simp⟩
  · by_cases hst : (ps.getD k zPs).st = 3
    · simp only [if_pos hst]
      refine ⟨outM_sorted _ _ _ _, fun i hi => ?_⟩
      obtain ⟨q1, q2⟩ := outM_mem hi
      obtain ⟨p1, _, p3, p4⟩ := leavesB_iff.1 q2
      exact ⟨q1, by omega, p3, p4, hst, by omega⟩
    · simp only [if_neg hst]
      exact ⟨List.Pairwise.nil, by simp⟩

/-- The last one that was ahead. -/
def lastOf (ids : List Nat) (k : Nat) : Int := if k = 0 then -1 else (ids.getD (k - 1) 0 : Nat)

theorem lastOf_lt {ids : List Nat} (h : ids.Pairwise (· < ·)) {k : Nat} (hk : k < ids.length) : lastOf ids k < (ids[k] : Int) := by
  unfold lastOf
  split
  · omega
  · have h1 : k - 1 < ids.length := by omega
    have := List.pairwise_iff_getElem.1 h (k - 1) k h1 hk (by omega)
    rw [List.getD_eq_getElem?_getD, List.getElem?_eq_getElem h1]
    show ((ids[k - 1] : Nat) : Int) < _
    omega

theorem lastOf_succ {ids : List Nat} {k : Nat} (hk : k < ids.length) : lastOf ids (k + 1) = (ids[k] : Int) := by
  unfold lastOf
  rw [if_neg (by omega), Nat.add_sub_cancel, List.getD_eq_getElem?_getD, List.getElem?_eq_getElem hk]
  rfl

end Go.Proofs.Ytdceggekhhflgaa
