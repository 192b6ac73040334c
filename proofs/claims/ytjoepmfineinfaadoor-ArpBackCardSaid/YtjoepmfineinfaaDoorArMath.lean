/- 6.1: what is written is read, and what is read is written: of bytes alone. -/
import Derived.Test.YtjoepmfineinfaaDoorArRead
import Derived.Test.YtjoepmfineinfaaDoorArWrite
namespace Go.Proofs.YtjoepmfineinfaaDoor
open Go.RowKit
set_option linter.unusedVariables false

theorem putL_add (n : Nat) : ∀ m X : Nat, putL (m * 256 ^ n + X) n = putL X n := by
  induction n with
  | zero => intro m X; rfl
  | succ n ih =>
    intro m X
    have e1 : m * 256 ^ (n + 1) + X = X + 256 ^ n * (m * 256) := by rw [Nat.pow_succ, Nat.mul_comm m, Nat.mul_assoc, Nat.mul_comm 256 m, Nat.add_comm]
    have e2 : (m * 256 ^ (n + 1) + X) / 256 ^ n % 256 = X / 256 ^ n % 256 := by
      rw [e1, Nat.add_mul_div_left _ _ (Nat.pow_pos (by decide))]
      omega
    have e3 : putL (m * 256 ^ (n + 1) + X) n = putL X n := by
      rw [show m * 256 ^ (n + 1) + X = (m * 256) * 256 ^ n + X by rw [Nat.pow_succ, Nat.mul_comm (256 ^ n) 256, Nat.mul_assoc]]
      exact ih _ _
    show UInt8.ofNat ((m * 256 ^ (n + 1) + X) / 256 ^ n % 256) :: putL (m * 256 ^ (n + 1) + X) n = UInt8.ofNat (X / 256 ^ n % 256) :: putL X n
    rw [e2, e3]

theorem putL_beN (l : List UInt8) : putL (beN l) l.length = l := by
  induction l with
  | nil => rfl
  | cons b l ih =>
    have hl := beN_lt l
    have hb := b.toNat_lt
    rw [beN_cons, List.length_cons]
    show UInt8.ofNat ((b.toNat * 256 ^ l.length + beN l) / 256 ^ l.length % 256) :: putL (b.toNat * 256 ^ l.length + beN l) l.length = b :: l
    rw [putL_add, ih, Nat.mul_comm, Nat.mul_add_div (Nat.pow_pos (by decide)), Nat.div_eq_of_lt hl, Nat.add_zero, Nat.mod_eq_of_lt hb]
    simp

theorem nb_byX (n : Nat) (l : List UInt8) (h : l.length = n) : nb n (byX l) = l := by
  apply List.ext_getElem?
  intro j
  unfold nb byX
  by_cases hj : j < n
  · have hj2 : j < l.length := by omega
    simp [hj, List.getElem?_eq_getElem hj2]
  · rw [List.getElem?_eq_none (by simp; omega), List.getElem?_eq_none (by omega)]

theorem byX_nb (n : Nat) (x : Nat → Nat) (hx : ∀ i, x i < 256) (i : Nat) (hi : i < n) : byX (nb n x) i = x i := by
  unfold byX nb
  have h := hx i
  simp [List.getD, hi, Nat.mod_eq_of_lt h]

/-- Enough of the right bytes are read whole. -/
theorem ar_full (l : List UInt8) (h28 : 28 ≤ l.length) (ht : l.take 6 = arHead) (ho : beN ((l.drop 6).take 2) = 1 ∨ beN ((l.drop 6).take 2) = 2) :
    arOp l = beN ((l.drop 6).take 2) ∧ (ar5 l).1 = (l.drop 8).take 6 ∧ (ar6 l).1 = (l.drop 14).take 4 ∧ (ar7 l).1 = (l.drop 18).take 6 ∧ (ar8 l).1 = (l.drop 24).take 4 ∧ ar9 l = zrR l 0 (28, 0, -1) := by
  rcases ar_ways l with ⟨h, _⟩ | ⟨_, h, _⟩ | ⟨_, _, h⟩
  · omega
  · exact absurd ht h
  rcases h with ⟨h, _⟩ | ⟨_, hop, h⟩
  · omega
  rcases h with ⟨h, _⟩ | ⟨_, h⟩
  · rw [hop] at h; exact absurd ho h
  rcases h with ⟨h, _⟩ | ⟨_, q5, h⟩
  · omega
  rcases h with ⟨h, _⟩ | ⟨_, q6, h⟩
  · omega
  rcases h with ⟨h, _⟩ | ⟨_, q7, h⟩
  · omega
  rcases h with ⟨h, _⟩ | ⟨_, q8, h⟩
  · omega
  exact ⟨hop, q5, q6, q7, q8, h⟩

theorem lead_nil : lead [] = 0 := rfl

/-- What is written is read. -/
theorem ar_back (n : Nat) (a : Ar) (hn : n = 1 ∨ n = 2) (ho : a.op = n) (hA : ArB a) : arC (arRes (arL n a)) = arC a ∧ arE (arL n a) = 0 ∧ arP (arL n a) = -1 := by
  have hn2 : n < 256 ^ 2 := by rcases hn with rfl | rfl <;> decide
  have d6 : (arL n a).take 6 = arHead := by
    unfold arL arHead
    simp only [List.append_assoc]
    rw [List.take_append_of_le_length (by simp)]
    rfl
  have hlen := arL_len n a
  have p2 := putL_length n 2
  have hd6 : (arL n a).drop 6 = putL n 2 ++ (nb 6 a.sha ++ (nb 4 a.spa ++ (nb 6 a.tha ++ nb 4 a.tpa))) := by
    unfold arL
    simp only [List.append_assoc]
    rfl
  have hd8 : (arL n a).drop 8 = nb 6 a.sha ++ (nb 4 a.spa ++ (nb 6 a.tha ++ nb 4 a.tpa)) := by
    rw [show 8 = 6 + 2 from rfl, ← List.drop_drop, hd6, List.drop_append_of_le_length (by omega), List.drop_of_length_le (by omega), List.nil_append]
  have hd14 : (arL n a).drop 14 = nb 4 a.spa ++ (nb 6 a.tha ++ nb 4 a.tpa) := by
    rw [show 14 = 8 + 6 from rfl, ← List.drop_drop, hd8, List.drop_append_of_le_length (by rw [nb_len]; omega), List.drop_of_length_le (by rw [nb_len]; omega), List.nil_append]
  have hd18 : (arL n a).drop 18 = nb 6 a.tha ++ nb 4 a.tpa := by
    rw [show 18 = 14 + 4 from rfl, ← List.drop_drop, hd14, List.drop_append_of_le_length (by rw [nb_len]; omega), List.drop_of_length_le (by rw [nb_len]; omega), List.nil_append]
  have hd24 : (arL n a).drop 24 = nb 4 a.tpa := by
    rw [show 24 = 18 + 6 from rfl, ← List.drop_drop, hd18, List.drop_append_of_le_length (by rw [nb_len]; omega), List.drop_of_length_le (by rw [nb_len]; omega), List.nil_append]
  have hb : beN (((arL n a).drop 6).take 2) = n := by
    rw [hd6, List.take_append_of_le_length (by omega), List.take_of_length_le (by omega)]
    exact beN_putL_fits n 2 hn2
  obtain ⟨hop, q5, q6, q7, q8, h9⟩ := ar_full (arL n a) (by omega) d6 (by rw [hb]; exact hn)
  rw [hd8, List.take_append_of_le_length (by rw [nb_len]; omega), List.take_of_length_le (by rw [nb_len]; omega)] at q5
  rw [hd14, List.take_append_of_le_length (by rw [nb_len]; omega), List.take_of_length_le (by rw [nb_len]; omega)] at q6
  rw [hd18, List.take_append_of_le_length (by rw [nb_len]; omega), List.take_of_length_le (by rw [nb_len]; omega)] at q7
  rw [hd24, List.take_of_length_le (by rw [nb_len]; omega)] at q8
  have hz : zrR (arL n a) 0 (28, 0, -1) = (true, (arL n a).length, 0, -1) := by
    simp only [zrR]
    rw [if_neg (by decide), if_pos (by rw [List.drop_of_length_le (by omega), lead_nil, hlen])]
  rw [hz] at h9
  have hg := ar_good (arL n a) (by rw [h9])
  refine ⟨?_, hg.1, hg.2⟩
  have e3 : arRes (arL n a) = arOf (arL n a) := by unfold arRes; rw [h9]; rfl
  rw [e3]
  unfold arOf
  rw [hop, hb, q5, q6, q7, q8]
  have s6 := fun i hi => byX_nb 6 a.sha hA.sha i hi
  have t6 := fun i hi => byX_nb 6 a.tha hA.tha i hi
  have s4 := fun i hi => byX_nb 4 a.spa hA.spa i hi
  have t4 := fun i hi => byX_nb 4 a.tpa hA.tpa i hi
  unfold arC
  simp only [ho, s6 0 (by decide), s6 1 (by decide), s6 2 (by decide), s6 3 (by decide), s6 4 (by decide), s6 5 (by decide), t6 0 (by decide), t6 1 (by decide), t6 2 (by decide), t6 3 (by decide), t6 4 (by decide), t6 5 (by decide),
    s4 0 (by decide), s4 1 (by decide), s4 2 (by decide), s4 3 (by decide), t4 0 (by decide), t4 1 (by decide), t4 2 (by decide), t4 3 (by decide)]

/-- What is read is written. -/
theorem ar_fore (s : ByteArray) (h : (ar9 s.data.toList).1 = true) : (arOp s.data.toList = 1 ∨ arOp s.data.toList = 2) ∧ arL (arOp s.data.toList) (arOf s.data.toList) = s.data.toList.take 28 ∧ 28 ≤ s.size ∧ (∀ (j : Nat) b, 28 ≤ j → s.data.toList[j]? = some b → b = 0) := by
  have hL : s.data.toList.length = s.size := by simp
  have hr := ar_right _ h
  rcases ar_ways s.data.toList with ⟨_, h9⟩ | ⟨_, _, p, h9⟩ | ⟨_, ht, hw⟩
  · rw [h9] at h; cases h
  · rw [h9] at h; cases h
  rcases hw with ⟨_, h9⟩ | ⟨h8, hop, hw⟩
  · rw [h9] at h; cases h
  rcases hw with ⟨_, p, h9⟩ | ⟨_, hw⟩
  · rw [h9] at h; cases h
  rcases hw with ⟨_, h9⟩ | ⟨_, q5, hw⟩
  · rw [h9] at h; cases h
  rcases hw with ⟨_, h9⟩ | ⟨_, q6, hw⟩
  · rw [h9] at h; cases h
  rcases hw with ⟨_, h9⟩ | ⟨_, q7, hw⟩
  · rw [h9] at h; cases h
  rcases hw with ⟨_, h9⟩ | ⟨h28, q8, h9⟩
  · rw [h9] at h; cases h
  rw [hL] at h28
  refine ⟨hr, ?_, h28, ?_⟩
  · unfold arL arOf
    rw [q5, q6, q7, q8, hop]
    have e2 : ((s.data.toList.drop 6).take 2).length = 2 := by rw [List.length_take, List.length_drop, hL]; omega
    have p2 := putL_beN ((s.data.toList.drop 6).take 2)
    rw [e2] at p2
    rw [p2]
    show [0, 1, 8, 0, 6, 4] ++ (s.data.toList.drop 6).take 2 ++ nb 6 (byX ((s.data.toList.drop 8).take 6)) ++ nb 4 (byX ((s.data.toList.drop 14).take 4)) ++ nb 6 (byX ((s.data.toList.drop 18).take 6)) ++ nb 4 (byX ((s.data.toList.drop 24).take 4)) = _
    rw [nb_byX 6 _ (by rw [List.length_take, List.length_drop, hL]; omega), nb_byX 4 _ (by rw [List.length_take, List.length_drop, hL]; omega), nb_byX 6 _ (by rw [List.length_take, List.length_drop, hL]; omega), nb_byX 4 _ (by rw [List.length_take, List.length_drop, hL]; omega)]
    rw [show ([0, 1, 8, 0, 6, 4] : List UInt8) = arHead from rfl, ← ht]
    rw [← List.take_add, ← List.take_add, ← List.take_add, ← List.take_add, ← List.take_add]
  · rcases zrR_ways s 28 (-1) h28 with ⟨hz, hr9⟩ | ⟨m, hms, hpm, hz, hm, hr9⟩
    · exact hz
    · rw [h9, hr9] at h; cases h

end Go.Proofs.YtjoepmfineinfaaDoor
