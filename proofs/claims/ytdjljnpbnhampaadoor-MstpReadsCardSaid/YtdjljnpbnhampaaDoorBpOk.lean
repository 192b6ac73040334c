/- What a BPDU that may be has. -/
import Derived.Test.YtdjljnpbnhampaaDoorBp
namespace Go.Proofs.YtdjljnpbnhampaaDoor
set_option linter.unusedVariables false

theorem okBd_all {b : Bp} (h : okBd b = true) : okB b.root = true ∧ okB b.snd = true ∧ okPt b.pp b.pn = true ∧ fitI 4 b.cost = true ∧ fitI 2 b.age = true ∧ fitI 2 b.mx = true ∧ fitI 2 b.hel = true ∧ fitI 2 b.wai = true := by
  simp only [okBd, okTm, Bool.and_eq_true] at h
  obtain ⟨h0, h1, h2, h3, h4, h5, h6, h7⟩ := h
  exact ⟨h0, h1, h2, h3, h4, h5, h6, h7⟩

theorem okBp_body {b : Bp} (h : okBp b = true) (hk : b.k = 1 ∨ b.k = 3) : okF b.f = true ∧ okBd b = true := by
  unfold okBp at h
  rcases hk with hk | hk
  · rw [if_pos hk, Bool.and_eq_true] at h
    refine ⟨?_, h.2⟩
    have q := (eqFl_iff _ _).1 h.1
    rw [q]
    simp [okF, cfF]
  · rw [if_neg (by omega), if_neg (by omega), if_pos hk, Bool.and_eq_true] at h
    exact h


end Go.Proofs.YtdjljnpbnhampaaDoor
