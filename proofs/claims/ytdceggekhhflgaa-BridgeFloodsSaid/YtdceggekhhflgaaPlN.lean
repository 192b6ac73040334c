/- Bridges of plain ports of which one is in another state, plainly. -/
import Derived.Test.YtdceggekhhflgaaPlM
import Derived.Test.YtdceggekhhflgaaBrP
namespace Go.Proofs.Ytdceggekhhflgaa
open Go.RowKit
set_option linter.unusedSimpArgs false
set_option linter.unusedVariables false
set_option maxRecDepth 100000

theorem sorted_len : ∀ {ids : List Nat} {n : Nat}, ids.Pairwise (· < ·) → (∀ i ∈ ids, i < n) → ids.length ≤ n := by
  intro ids n h hn
  have h1 : ids.Nodup := List.nodup_iff_pairwise_ne.2 (h.imp fun q => Nat.ne_of_lt q)
  have h2 : ids ⊆ List.range n := fun i hi => List.mem_range.2 (hn i hi)
  have := h1.length_le_of_subset h2
  simpa using this

theorem Sents.nil {w : World} {f : Fr} {vid : Int} {ps : List Ps} {ss : List SnH} (h : Sents w f vid ps [] ss) : ss = [] := by
  have := h.len
  exact List.length_eq_zero_iff.1 this.symm

theorem Sents.mem {w : World} {f : Fr} {vid : Int} {ps : List Ps} : ∀ {is : List Nat} {ss : List SnH}, Sents w f vid ps is ss → ∀ s ∈ ss, ∃ i ∈ is, s.p = (i : Int) := by
  intro is ss h s hs
  obtain ⟨j, hj, rfl⟩ := List.getElem_of_mem hs
  have hj2 : j < is.length := by have := h.len; omega
  exact ⟨is[j], List.getElem_mem hj2, (h.get j hj2 hj).1⟩

theorem quiet_first {k : Nat} (hk : k < 5) {lE tE : Int} {E : List Ent} (h0 : 0 ≤ lE) (h1 : lE ≤ tE) (h2 : tE ≤ 1000000) (t : Tr) :
    ∃ l2 E2, (∀ ta tc, inM (ps5 k 2) 100 lE E (k : Int) (carF t ta tc) tE = ⟨0, l2, E2, []⟩) ∧ 0 ≤ l2 ∧ l2 ≤ tE ∧ (vidM (ps5 k 2) (k : Int) (tagM t) = 0 ∨ (1 ≤ vidM (ps5 k 2) (k : Int) (tagM t) ∧ lookM 100 E2 (vidM (ps5 k 2) (k : Int) (tagM t)) (adF t.frm) tE = k)) := by
  have hl : k < (ps5 k 2).length := by rw [ps5_len]; exact hk
  rcases in_cases (ps5_ok k 2 rfl) hl (by rw [ps5_len]; decide) h0 h1 h2 E t none 0 with ⟨hd, e⟩ | ⟨_, hv, _, e⟩
  · refine ⟨lE, E, fun ta tc => e, h0, h1, Or.inl ?_⟩
    rw [dead_iff, ps5_at k 2 hk] at hd
    simpa [pSt] using hd
  · rw [ps5_at k 2 hk, if_neg (show ¬ (pSt 2).st = 3 by decide)] at e
    exact ⟨tE, _, fun ta tc => e, by omega, Int.le_refl _, Or.inr ⟨hv, look_new 100 E _ _ _ _ (by decide)⟩⟩

/-- By which ports of five a frame leaves that comes by another one than the k-th, which doesn't pass. -/
theorem other_out {k j : Nat} (hj : j < 5) {st : Int} (hst : stB st = true) (hs3 : st ≠ 3) (hk : k < 5) {lE tE : Int} {E : List Ent} (h0 : 0 ≤ lE) (h1 : lE ≤ tE) (h2 : tE ≤ 1000000) (t : Tr) (ta : Option Addr) (tc : Nat) :
    (inM (ps5 k st) 100 lE E (j : Int) (carF t ta tc) tE).err = 0 ∧ (∀ i ∈ (inM (ps5 k st) 100 lE E (j : Int) (carF t ta tc) tE).out, i ≠ k) ∧ (inM (ps5 k st) 100 lE E (j : Int) (carF t ta tc) tE).out.length ≤ 8 := by
  have hl : j < (ps5 k st).length := by rw [ps5_len]; exact hj
  have hf := in_fine (ps5_ok k st hst) hl (by rw [ps5_len]; decide) h0 h1 h2 E t ta tc
  have ho := in_out (ps5_ok k st hst) hl (by rw [ps5_len]; decide) h0 h1 h2 E t ta tc
  refine ⟨hf.1, fun i hi e => ?_, Nat.le_trans (sorted_len (n := 5) ho.1 fun i hi => by have := (ho.2 i hi).lt; rwa [ps5_len] at this) (by decide)⟩
  have := (ho.2 i hi).st
  rw [e, ps5_at k st hk] at this
  exact hs3 this

end Go.Proofs.Ytdceggekhhflgaa
