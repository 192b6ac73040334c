/- A wire.Reader beside the plain answer: what Bytes, Num, Fail, Zeros and Err do in any state. (apart: zrR, leadT_le, zrR_le) -/
import Derived.Test.YtdjljnpbnhampaaDoorRdT
import Derived.Test.YtdjljnpbnhampaaDoorZeros
namespace Go.Proofs.YtdjljnpbnhampaaDoor
open Go.RowKit
set_option linter.unusedVariables false

/-- Only noughts are left. -/
def zrR (s : List UInt8) (off : Nat) (st : RSt) : Bool × RSt :=
  if st.2.1 ≠ 0 then (false, st)
  else if st.1 + lead (s.drop st.1) = s.length then (true, s.length, st.2)
  else (false, st.1 + lead (s.drop st.1), 15, (off : Int) + (st.1 + lead (s.drop st.1) : Nat))

theorem leadT_le (l : List UInt8) : lead l ≤ l.length := by unfold lead; omega

theorem zrR_le (s : List UInt8) (off : Nat) (st : RSt) (h : st.1 ≤ s.length) : (zrR s off st).2.1 ≤ s.length := by
  have h3 := leadT_le (s.drop st.1)
  rw [List.length_drop] at h3
  unfold zrR
  split
  · exact h
  · split
    · exact Nat.le_refl _
    · show st.1 + lead (s.drop st.1) ≤ s.length
      omega

theorem zrR_bad (s : List UInt8) (off : Nat) (st : RSt) (h : st.2.1 ≠ 0) : zrR s off st = (false, st) := by unfold zrR; rw [if_pos h]

theorem zrR_no (s : List UInt8) (off : Nat) (st : RSt) (h : (zrR s off st).1 = false) : (zrR s off st).2.2.1 ≠ 0 := by
  unfold zrR at h ⊢
  split
  · assumption
  · rename_i h1
    rw [if_neg h1] at h
    split
    · rename_i h2
      rw [if_pos h2] at h
      cases h
    · exact (show (15 : Int) ≠ 0 by decide)

theorem zrR_yes (s : List UInt8) (off : Nat) (st : RSt) (h : (zrR s off st).1 = true) : st.2.1 = 0 ∧ st.1 + lead (s.drop st.1) = s.length ∧ (zrR s off st).2 = (s.length, st.2) := by
  unfold zrR at h ⊢
  by_cases h1 : st.2.1 ≠ 0
  · rw [if_pos h1] at h; cases h
  · rw [if_neg h1] at h ⊢
    by_cases h2 : st.1 + lead (s.drop st.1) = s.length
    · rw [if_pos h2]
      exact ⟨by simpa using h1, h2, rfl⟩
    · rw [if_neg h2] at h; cases h

theorem zeros_t {g : Nat} {s : ByteArray} {off : Nat} (st : RSt) (w : World) (h : RdT w g s off st) (hp : st.1 ≤ s.size) (hb : off + s.size ≤ 281474976710656) :
    Calls Tryd.prog 62 #[.pointer (some ⟨g, 0, none⟩)] w fun e w' => e = .returned (.bool (zrR s.data.toList off st).1) ∧
      RdT w' g s off (zrR s.data.toList off st).2 ∧ w.grownBy w' (some g) := by
  obtain ⟨p, e0, pl⟩ := st
  obtain ⟨f, hr, hf⟩ := h
  have hz := restT_size s p hp
  have hLs : s.data.toList.length = s.size := by simp
  have hp' : p ≤ s.size := hp
  have hdl : (s.data.toList.drop p).length = s.size - p := by rw [List.length_drop, hLs]
  have htl : (s.extract p s.size).data.toList = s.data.toList.drop p := Lib.extract_to_end _ _
  rcases hf with ⟨h0, rfl⟩ | ⟨h0, q, rfl, hq⟩
  · have h0' : e0 = 0 := h0
    subst h0'
    by_cases hc : Lib.trimLeftB (s.data.toList.drop p) 0 = []
    · have hl : lead (s.data.toList.drop p) = s.size - p := by unfold lead; rw [hc, hdl]; simp
      have HS : zrR s.data.toList off (p, 0, pl) = (true, s.size, 0, pl) := by
        simp only [zrR, hl]
        rw [if_neg (by decide), if_pos (by rw [hLs]; omega), hLs]
      rw [HS]
      refine (zeros_clean w hr (by show (0 : Int) ≤ (off : Int) + (p : Int); omega) (by rw [hz]; show (off : Int) + (p : Int) + _ ≤ _; omega) (by rw [htl]; exact hc)).mono ?_
      rintro e w' ⟨rfl, hr', hg⟩
      refine ⟨rfl, ⟨none, ?_, Or.inl ⟨rfl, rfl⟩⟩, hg⟩
      have e1 := extract_extract s p (s.size - p)
      have e2 : (off : Int) + (s.size : Int) = (off : Int) + (p : Int) + ((s.extract p s.size).size : Int) := by rw [hz]; omega
      have e3 : (s.extract p s.size).extract (s.extract p s.size).size (s.extract p s.size).size = s.extract s.size s.size := by rw [show p + (s.size - p) = s.size by omega, ← hz] at e1; exact e1
      show Rd w' g (s.extract s.size s.size) ((off : Int) + (s.size : Int)) none
      rw [e2, ← e3]
      exact hr'
    · have hne : ¬ p + lead (s.data.toList.drop p) = s.data.toList.length := by
        intro q
        have hle := trim_le (s.data.toList.drop p)
        have : (Lib.trimLeftB (s.data.toList.drop p) 0).length = 0 := by unfold lead at q; rw [hdl] at q hle; rw [hLs] at q; omega
        exact hc (List.eq_nil_of_length_eq_zero this)
      have HS : zrR s.data.toList off (p, 0, pl) = (false, p + lead (s.data.toList.drop p), 15, (off : Int) + (p + lead (s.data.toList.drop p) : Nat)) := by
        simp only [zrR]
        rw [if_neg (by decide), if_neg hne]
      rw [HS]
      refine (zeros_spoilt w hr (by show (0 : Int) ≤ (off : Int) + (p : Int); omega) (by rw [hz]; show (off : Int) + (p : Int) + _ ≤ _; omega) (by rw [htl]; exact hc)).mono ?_
      rintro e w' ⟨rfl, q, hq, hr', hf', hg⟩
      rw [htl] at hr' hf'
      have e2 : (off : Int) + ((p + lead (s.data.toList.drop p) : Nat) : Int) = (off : Int) + (p : Int) + (lead (s.data.toList.drop p) : Int) := by omega
      refine ⟨rfl, ⟨some ⟨q, 0, none⟩, ?_, Or.inr ⟨(show (15 : Int) ≠ 0 by decide), q, rfl, ?_⟩⟩, hg⟩
      · have e1 := extract_extract s p (lead (s.data.toList.drop p))
        show Rd w' g (s.extract (p + lead (s.data.toList.drop p)) s.size) ((off : Int) + ((p + lead (s.data.toList.drop p) : Nat) : Int)) _
        rw [e2, ← e1]
        exact hr'
      · show Flt w' q 15 ((off : Int) + ((p + lead (s.data.toList.drop p) : Nat) : Int))
        rw [e2]
        exact hf'
  · have h0' : e0 ≠ 0 := h0
    have HS : zrR s.data.toList off (p, e0, pl) = (false, p, e0, pl) := by simp [zrR, h0']
    rw [HS]
    refine (zeros_noted w hr).mono ?_
    rintro e w' ⟨rfl, rfl⟩
    exact ⟨rfl, ⟨_, hr, Or.inr ⟨h0, q, rfl, hq⟩⟩, World.grownBy.refl _ _⟩


end Go.Proofs.YtdjljnpbnhampaaDoor
