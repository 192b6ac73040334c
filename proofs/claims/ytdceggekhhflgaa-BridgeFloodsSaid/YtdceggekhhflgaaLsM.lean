/- Who was heard is sent to alone; who was not is sought: plainly. -/
import Derived.Test.YtdceggekhhflgaaPlM
namespace Go.Proofs.Ytdceggekhhflgaa
open Go.RowKit
set_option linter.unusedSimpArgs false
set_option linter.unusedVariables false
set_option maxRecDepth 100000

theorem rep_len : (List.replicate 5 pP).length = 5 := by simp

theorem rep_ok : ∀ p ∈ List.replicate 5 pP, okPs p = true := fun p hp => by rw [(List.mem_replicate.1 hp).2]; exact pP_ok

theorem vid_rep (k : Nat) (hk : k < 5) (tl : List Tg) : vidM (List.replicate 5 pP) (k : Int) tl = vidP pP (firstT tl) := by
  unfold vidM
  rw [rep_len, hasB_nat hk, if_pos rfl, show (k : Int).toNat = k from rfl, rep5_at k hk]

theorem vid_rep_mem {tl : List Tg} (h : vidP pP (firstT tl) ≠ 0) : vidP pP (firstT tl) = 1 ∨ vidP pP (firstT tl) = 2 := by
  unfold vidP at h ⊢
  simp only at h ⊢
  generalize (if (firstT tl).v = 0 then pP.pv else (firstT tl).v) = v at *
  by_cases hc : ((firstT tl).s || !memB pP.inn v) = true
  · rw [if_pos hc] at h; exact absurd rfl h
  · rw [if_neg hc]
    simp only [Bool.or_eq_true, Bool.not_eq_true', not_or, Bool.not_eq_true, Bool.not_eq_false] at hc
    have := memB_iff.1 hc.2
    simpa [pP] using this

theorem out_rep1 : ∀ j, j < 5 → ∀ k, k < 5 → outM ((j : Nat) : Int) ((k : Nat) : Int) 1 (List.replicate 5 pP) = if k = j then [] else [j] := by decide

theorem out_rep2 : ∀ j, j < 5 → ∀ k, k < 5 → outM ((j : Nat) : Int) ((k : Nat) : Int) 2 (List.replicate 5 pP) = if k = j then [] else [j] := by decide

theorem out_rep {j k : Nat} (hj : j < 5) (hk : k < 5) {tl : List Tg} (h : vidP pP (firstT tl) ≠ 0) : outM (j : Int) (k : Int) (vidP pP (firstT tl)) (List.replicate 5 pP) = if k = j then [] else [j] := by
  rcases vid_rep_mem h with e | e <;> rw [e]
  · exact out_rep1 j hj k hk
  · exact out_rep2 j hj k hk

/-- A frame that is let in among plain ports. -/
theorem learns_in {k : Nat} (hk : k < 5) {lE tE : Int} {E : List Ent} (h0 : 0 ≤ lE) (h1 : lE ≤ tE) (h2 : tE ≤ 1000000) (t : Tr) (hv : vidP pP (firstT (tagM t)) ≠ 0) (ta : Option Addr) (tc : Nat) :
    inM (List.replicate 5 pP) 100 lE E (k : Int) (carF t ta tc) tE = ⟨0, tE, learnM 100 E (vidP pP (firstT (tagM t))) (adF t.frm) (k : Int) tE, outM (lookM 100 (learnM 100 E (vidP pP (firstT (tagM t))) (adF t.frm) (k : Int) tE) (vidP pP (firstT (tagM t))) (dstF t) tE) (k : Int) (vidP pP (firstT (tagM t))) (List.replicate 5 pP)⟩ := by
  have hk' : k < (List.replicate 5 pP).length := by rw [rep_len]; exact hk
  rcases in_cases rep_ok hk' (by rw [rep_len]; decide) h0 h1 h2 E t ta tc with ⟨hd, _⟩ | ⟨_, _, _, e⟩
  · rw [vid_rep k hk, rep5_at k hk, dead_iff] at hd
    have : (vidP pP (firstT (tagM t)) == 0) = false := beq_eq_false_iff_ne.2 hv
    rw [this] at hd
    exact absurd hd (by decide)
  · rw [vid_rep k hk, rep5_at k hk] at e
    rw [e, if_pos (show pP.st = 3 from rfl)]

/-- BridgeLearns, plainly: q is where the answer's sender is, k where the trip's frame comes. -/
theorem learns_out {k q : Nat} (hk : k < 5) (hq : q < 5) {lE tE : Int} {E : List Ent} (h0 : 0 ≤ lE) (h1 : lE ≤ tE) (h2 : tE ≤ 1000000) (hE : E.length ≤ 32) (t u : Tr) (hm : t.many = false) (hu : u.frm = t.to) (htl : tagM u = tagM t) (hv : vidP pP (firstT (tagM t)) ≠ 0) (hab : eqN 6 (adF t.to) (adF t.frm) = false) :
    ∃ E2, (∀ ta tc, (inM (List.replicate 5 pP) 100 lE E (q : Int) (carF u ta tc) tE).err = 0 ∧ (inM (List.replicate 5 pP) 100 lE E (q : Int) (carF u ta tc) tE).last = tE ∧ (inM (List.replicate 5 pP) 100 lE E (q : Int) (carF u ta tc) tE).E = E2) ∧
      ∀ ta tc, (inM (List.replicate 5 pP) 100 tE E2 (k : Int) (carF t ta tc) tE).err = 0 ∧ (inM (List.replicate 5 pP) 100 tE E2 (k : Int) (carF t ta tc) tE).out = if k = q then [] else [q] := by
  have hvu : vidP pP (firstT (tagM u)) ≠ 0 := by rw [htl]; exact hv
  refine ⟨learnM 100 E (vidP pP (firstT (tagM u))) (adF u.frm) (q : Int) tE, fun ta tc => ?_, fun ta tc => ?_⟩
  · rw [learns_in hq h0 h1 h2 u hvu ta tc]
    exact ⟨rfl, rfl, rfl⟩
  · rw [learns_in hk (by omega) (Int.le_refl _) h2 t hv ta tc]
    refine ⟨rfl, ?_⟩
    have hd : dstF t = adF t.to := by
      funext i
      unfold dstF
      rw [hm]
      simp
    show outM _ _ _ _ = _
    rw [hd, htl, hu, look_kept 100 E _ (adF t.frm) (adF t.to) (q : Int) (k : Int) tE (by decide) hE hab]
    exact out_rep hq hk hv

/-! Who was not heard is sought everywhere. -/

def manyT (t : Tr) (b : Bool) : Tr := { t with many := b }

theorem look_unheard {E : List Ent} {V : Int} {a b : Nat → Nat} {p now : Int} (hE : OkL E) (hab : eqN 6 a b = false) (h : lookM 100 E V b now < 0) (hp : 0 ≤ p) (hp8 : p < 8) (ha : ∀ i, a i < 256) (hn : 0 ≤ now) (hn2 : now ≤ 1000000) : lookM 100 (learnM 100 E V a p now) V b now = -1 := by
  have hnone : ∀ e ∈ E, (keyE V b e && aliveE 100 now e) = false := by
    rcases lookM_neg (age := 100) (vid := V) (a := b) (now := now) hE with ⟨_, q⟩ | ⟨e, _, _, q, q0⟩
    · exact q
    · omega
  have hE2 : OkL (learnM 100 E V a p now) := hE.learn 100 V a p now ha hp hp8 hn (by omega)
  rcases lookM_neg (age := 100) (vid := V) (a := b) (now := now) hE2 with ⟨q, _⟩ | ⟨e, he, hk, _, _⟩
  · exact q
  · exfalso
    unfold learnM at he
    rcases List.mem_append.1 he with r | r
    · rw [hnone e ((List.mem_filter.1 (roomM_sub _ e r)).1)] at hk
      exact absurd hk (by decide)
    · rw [List.mem_singleton.1 r] at hk
      unfold keyE at hk
      simp [hab] at hk

theorem look_group {E : List Ent} {V : Int} {b : Nat → Nat} {now : Int} (hE : OkL E) (he : ∀ e ∈ E, e.a 0 % 2 = 0) (hb : b 0 = 3) : lookM 100 E V b now = -1 := by
  rcases lookM_neg (age := 100) (vid := V) (a := b) (now := now) hE with ⟨q, _⟩ | ⟨e, hm, hk, _, _⟩
  · exact q
  · exfalso
    simp only [Bool.and_eq_true] at hk
    have h1 := hk.1
    unfold keyE at h1
    simp only [Bool.and_eq_true] at h1
    have := (eqN_iff 6 _ _).1 h1.2 0 (by decide)
    have := he e hm
    omega

/-- BridgeFloods, plainly. -/
theorem floods_out {ps : List Ps} (h : ∀ p ∈ ps, okPs p = true) {k : Nat} (hk : k < ps.length) (h8 : ps.length ≤ 8) {last now : Int} (h0 : 0 ≤ last) (h1 : last ≤ now) (h2 : now ≤ 1000000) {E : List Ent} (hK : Kept E last) (he : ∀ e ∈ E, e.a 0 % 2 = 0) (t : Tr)
    (hab : eqN 6 (adF t.frm) (adF t.to) = false) (hat : lookM 100 E (vidM ps (k : Int) (tagM t)) (adF t.to) now < 0) (ta tb : Option Addr) (tc td : Nat) :
    (inM ps 100 last E (k : Int) (carF (manyT t false) ta tc) now).out = (inM ps 100 last E (k : Int) (carF (manyT t true) tb td) now).out := by
  have e1 : tagM (manyT t false) = tagM t := rfl
  have e2 : tagM (manyT t true) = tagM t := rfl
  have d1 : dstF (manyT t false) = adF t.to := by
    funext i
    unfold dstF manyT
    simp
  have d2 : dstF (manyT t true) 0 = 3 := rfl
  have f1 : (manyT t false).frm = t.frm := rfl
  have f2 : (manyT t true).frm = t.frm := rfl
  have hv := vidM_ok h (k : Int) (tagM t)
  rcases in_cases h hk h8 h0 h1 h2 E (manyT t false) ta tc with ⟨q1, r1⟩ | ⟨q1, v1, v2, r1⟩ <;> rcases in_cases h hk h8 h0 h1 h2 E (manyT t true) tb td with ⟨q2, r2⟩ | ⟨q2, v3, v4, r2⟩
  · rw [r1, r2]
  · rw [dead_iff, e1] at q1
    rw [dead_iff, e2, q1] at q2
    exact absurd q2 (by decide)
  · rw [dead_iff, e1] at q1
    rw [dead_iff, e2, q1] at q2
    exact absurd q2 (by decide)
  · rw [r1, r2]
    rw [e1] at v1 v2
    simp only [e1, e2, d1, f1, f2]
    have hK2 := hK.learn 100 (vidM ps (k : Int) (tagM t)) (adF t.frm) (k : Int) now (adF_lt _) (by omega) (by omega) (by omega) (by omega) h1
    have hev := learn_even (age := 100) (vid := vidM ps (k : Int) (tagM t)) (port := (k : Int)) (now := now) he (show adF t.frm 0 % 2 = 0 by have := adF_even t.frm; omega)
    rw [look_unheard hK.ok hab hat (by omega) (by omega) (adF_lt _) (by omega) h2, look_group hK2.ok hev d2]

end Go.Proofs.Ytdceggekhhflgaa
