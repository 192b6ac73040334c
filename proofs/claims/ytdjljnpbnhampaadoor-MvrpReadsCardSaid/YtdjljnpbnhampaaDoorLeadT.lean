/- How many noughts stand ahead: each of them is one, and the next byte is none. -/
import Derived.Test.YtdjljnpbnhampaaDoorRdZ
import Derived.Test.YtdjljnpbnhampaaDoorRdT
namespace Go.Proofs.YtdjljnpbnhampaaDoor
open Go.RowKit

theorem lead_cons0 (l : List UInt8) : lead (0 :: l) = lead l + 1 := by
  have hl := trim_le l
  have e : Lib.trimLeftB (0 :: l) 0 = Lib.trimLeftB l 0 := by
    show (0 :: l).dropWhile (· == 0) = l.dropWhile (· == 0)
    simp [List.dropWhile]
  unfold lead
  rw [e, List.length_cons]
  omega

theorem lead_cons1 (b : UInt8) (l : List UInt8) (h : b ≠ 0) : lead (b :: l) = 0 := by
  have hb : (b == 0) = false := by simp [h]
  have e : Lib.trimLeftB (b :: l) 0 = b :: l := by
    show (b :: l).dropWhile (· == 0) = b :: l
    simp only [List.dropWhile, hb]
  unfold lead
  rw [e]
  omega

theorem lead_spec (l : List UInt8) : (∀ (j : Nat) b, j < lead l → l[j]? = some b → b = 0) ∧ (∀ b, l[lead l]? = some b → b ≠ 0) := by
  induction l with
  | nil => exact ⟨fun j b hj => by simp [lead, Lib.trimLeftB] at hj, fun b hb => by simp at hb⟩
  | cons x l ih =>
    by_cases hx : x = 0
    · subst hx
      rw [lead_cons0]
      refine ⟨fun j b hj hb => ?_, fun b hb => ?_⟩
      · cases j with
        | zero => simpa using hb.symm
        | succ j => exact ih.1 j b (by omega) (by simpa using hb)
      · exact ih.2 b (by simpa using hb)
    · rw [lead_cons1 x l hx]
      exact ⟨fun j b hj => by omega, fun b hb => by simp at hb; rw [← hb]; exact hx⟩

/-- Behind p only noughts, or another byte at m. -/
theorem zrR_ways (s : ByteArray) (p : Nat) (pl : Int) (hp : p ≤ s.size) :
    ((∀ (j : Nat) b, p ≤ j → s.data.toList[j]? = some b → b = 0) ∧ zrR s.data.toList 0 (p, 0, pl) = (true, s.data.toList.length, 0, pl)) ∨
    (∃ m, ∃ hm : m < s.size, p ≤ m ∧ (∀ (j : Nat) b, p ≤ j → j < m → s.data.toList[j]? = some b → b = 0) ∧ s[m] ≠ 0 ∧ zrR s.data.toList 0 (p, 0, pl) = (false, m, 15, (m : Int))) := by
  obtain ⟨h1, h2⟩ := lead_spec (s.data.toList.drop p)
  have hL : s.data.toList.length = s.size := by simp
  have hle := leadT_le (s.data.toList.drop p)
  rw [List.length_drop, hL] at hle
  by_cases hc : p + lead (s.data.toList.drop p) = s.data.toList.length
  · refine Or.inl ⟨fun j b hj hb => ?_, ?_⟩
    · have hjl : j < s.data.toList.length := (List.getElem?_eq_some_iff.1 hb).1
      exact h1 (j - p) b (by omega) (by rw [List.getElem?_drop, show p + (j - p) = j by omega]; exact hb)
    · simp only [zrR]
      rw [if_neg (by decide), if_pos hc]
  · have hm : p + lead (s.data.toList.drop p) < s.size := by omega
    refine Or.inr ⟨p + lead (s.data.toList.drop p), hm, by omega, fun j b hj hj2 hb => ?_, ?_, ?_⟩
    · exact h1 (j - p) b (by omega) (by rw [List.getElem?_drop, show p + (j - p) = j by omega]; exact hb)
    · exact h2 _ (by rw [List.getElem?_drop, Array.getElem?_toList]; exact Array.getElem?_eq_getElem hm)
    · simp only [zrR]
      rw [if_neg (by decide), if_neg hc]
      simp

end Go.Proofs.YtdjljnpbnhampaaDoor
