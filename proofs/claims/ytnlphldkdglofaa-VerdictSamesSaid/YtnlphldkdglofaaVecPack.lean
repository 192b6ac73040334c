/- Names as bytes, and their order: plain lists, nothing of the program. -/
import Derived.Test.YtnlphldkdglofaaBrS
import Derived.Test.YtnlphldkdglofaaNum
namespace Go.Proofs.Ytnlphldkdglofaa
set_option linter.unusedVariables false

/-- The eight bytes of a name. -/
def packL (b : Br) : List UInt8 := putL (b.p + b.e).toNat 2 ++ (six b.a).map UInt8.ofNat

theorem packL_len (b : Br) : (packL b).length = 8 := by simp [packL, putL_length, six]

theorem bytesLess_append : ∀ (p q p' q' : List UInt8), p.length = p'.length → Op.bytesLess (p ++ q) (p' ++ q') = (Op.bytesLess p p' || (p == p') && Op.bytesLess q q')
  | [], q, [], q', _ => by simp [Op.bytesLess]
  | [], _, _ :: _, _, h => by simp at h
  | _ :: _, _, [], _, h => by simp at h
  | a :: p, q, b :: p', q', h => by
    have ih := bytesLess_append p q p' q' (by simpa using h)
    simp only [List.cons_append, Op.bytesLess, ih]
    by_cases e : a = b
    · subst e
      simp
    · have e' : (a == b) = false := by simpa using e
      simp [e']

theorem packL_less {a b : Br} (ha : okB a = true) (hb : okB b = true) (xa : byB a) (xb : byB b) : Op.bytesLess (packL a) (packL b) = lessB a b := by
  obtain ⟨p0, p1, pm, e0, e1⟩ := okB_all ha
  obtain ⟨q0, q1, qm, f0, f1⟩ := okB_all hb
  obtain ⟨X, hX⟩ := Int.eq_ofNat_of_zero_le (show 0 ≤ a.p + a.e by omega)
  obtain ⟨Y, hY⟩ := Int.eq_ofNat_of_zero_le (show 0 ≤ b.p + b.e by omega)
  have hX' : X < 256 ^ 2 := by omega
  have hY' : Y < 256 ^ 2 := by omega
  unfold packL lessB
  rw [bytesLess_append _ _ _ _ (by simp [putL_length]), six_cmp xa xb, hX, hY, Int.toNat_natCast, Int.toNat_natCast, less_putL_fits X Y 2 hX' hY']
  have hp : ((putL X 2 == putL Y 2) : Bool) = decide (X = Y) := by
    rw [Bool.eq_iff_iff]
    simp only [beq_iff_eq, decide_eq_true_eq]
    exact ⟨fun h => putL_inj X Y 2 hX' hY' h, by rintro rfl; rfl⟩
  rw [hp]
  unfold numsB
  rw [cmpL_append [a.p, a.e] [b.p, b.e] _ _ rfl]
  simp only [cmpL]
  by_cases h1 : X < Y
  · have : a.p < b.p ∨ (a.p = b.p ∧ a.e < b.e) := by omega
    rcases this with q | ⟨q, r⟩
    · simp [h1, q]
    · simp [h1, q, r]
  · by_cases h2 : Y < X
    · have : b.p < a.p ∨ (a.p = b.p ∧ b.e < a.e) := by omega
      have h3 : ¬ X = Y := by omega
      rcases this with q | ⟨q, r⟩
      · have q' : ¬ a.p < b.p := by omega
        simp [h1, h3, q, q']
      · have r' : ¬ a.e < b.e := by omega
        simp [h1, h3, q, r, r']
    · have h3 : X = Y := by omega
      have q : a.p = b.p := by omega
      have r : a.e = b.e := by omega
      simp [h3, q, r]

theorem packL_eq {a b : Br} (ha : okB a = true) (hb : okB b = true) (xa : byB a) (xb : byB b) : packL a = packL b ↔ numsB a = numsB b := by
  obtain ⟨p0, p1, pm, e0, e1⟩ := okB_all ha
  obtain ⟨q0, q1, qm, f0, f1⟩ := okB_all hb
  obtain ⟨X, hX⟩ := Int.eq_ofNat_of_zero_le (show 0 ≤ a.p + a.e by omega)
  obtain ⟨Y, hY⟩ := Int.eq_ofNat_of_zero_le (show 0 ≤ b.p + b.e by omega)
  have hX' : X < 256 ^ 2 := by omega
  have hY' : Y < 256 ^ 2 := by omega
  constructor
  · intro h
    unfold packL at h
    obtain ⟨h1, h2⟩ := List.append_inj h (by simp [putL_length])
    rw [hX, hY, Int.toNat_natCast, Int.toNat_natCast] at h1
    have h3 := putL_inj X Y 2 hX' hY' h1
    have h4 : six a.a = six b.a := by
      simp only [six, List.map_cons, List.map_nil, List.cons.injEq, and_true] at h2 ⊢
      obtain ⟨g0, g1, g2, g3, g4, g5⟩ := h2
      exact ⟨(ofNat_eq _ _ (xa _) (xb _)).1 g0, (ofNat_eq _ _ (xa _) (xb _)).1 g1, (ofNat_eq _ _ (xa _) (xb _)).1 g2, (ofNat_eq _ _ (xa _) (xb _)).1 g3, (ofNat_eq _ _ (xa _) (xb _)).1 g4, (ofNat_eq _ _ (xa _) (xb _)).1 g5⟩
    unfold numsB
    rw [sixI_map, sixI_map, h4, show a.p = b.p by omega, show a.e = b.e by omega]
  · intro h
    unfold numsB at h
    obtain ⟨h1, h2⟩ := List.append_inj h rfl
    simp only [List.cons.injEq, and_true] at h1
    unfold packL
    rw [h1.1, h1.2, sixI_inj h2]


end Go.Proofs.Ytnlphldkdglofaa
