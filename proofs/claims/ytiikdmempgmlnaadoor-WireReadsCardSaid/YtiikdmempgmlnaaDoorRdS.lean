/- The code's Reader beside the plain answer: what Bytes, Num, Zeros, Sub, Fail and Err do in any state. -/
import Derived.Test.YtiikdmempgmlnaaDoorReadsSpec
import Derived.Test.YtiikdmempgmlnaaDoorSub
import Derived.Test.YtiikdmempgmlnaaDoorPlace
namespace Go.Proofs.YtiikdmempgmlnaaDoor
open Go.RowKit
set_option linter.unusedVariables false

/-- What is noted (e, at pl) lies at f. -/
def Fs (w : World) (e pl : Int) (f : Option Addr) : Prop := (e = 0 ∧ f = none) ∨ (e ≠ 0 ∧ ∃ q, f = some ⟨q, 0, none⟩ ∧ Flt w q e pl)

/-- Reader g is where st says. -/
def RdS (w : World) (g : Nat) (s : ByteArray) (off : Nat) (st : RSt) : Prop := ∃ f, Rd w g (s.extract st.1 s.size) ((off : Int) + (st.1 : Int)) f ∧ Fs w st.2.1 st.2.2 f

theorem rd_ne_flt {w : World} {g q : Nat} {s : ByteArray} {a e pl : Int} {f : Option Addr} (h : Rd w g s a f) (hf : Flt w q e pl) : q ≠ g := by
  intro e0
  subst e0
  have h1 : w.heap[q]? = some (.cells #[.string s, .int .i64 a, .pointer f] 66) := h
  have h2 : w.heap[q]? = some (.cells #[.int .i64 e, .int .i64 pl] 71) := hf
  have h3 := h1.symm.trans h2
  injection h3 with h3
  injection h3 with h3 h4
  exact absurd h4 (by decide)

theorem Fs.kept {w w' : World} {g : Nat} {s : ByteArray} {a e pl : Int} {f f' : Option Addr} (h : Fs w e pl f) (hr : Rd w g s a f') (hg : w.grownBy w' (some g)) : Fs w' e pl f := by
  rcases h with h | ⟨he, q, hq, hf⟩
  · exact Or.inl h
  · exact Or.inr ⟨he, q, hq, hf.kept hg (by intro e1; cases e1; exact rd_ne_flt hr hf rfl)⟩

theorem Fs.below {w w' : World} {e pl : Int} {f : Option Addr} (h : Fs w e pl f) (hb : Below w.heap.size w w') : Fs w' e pl f := by
  rcases h with h | ⟨he, q, hq, hf⟩
  · exact Or.inl h
  · exact Or.inr ⟨he, q, hq, hf.below hb⟩

theorem RdS.below {w w' : World} {g : Nat} {s : ByteArray} {off : Nat} {st : RSt} (h : RdS w g s off st) (hb : Below w.heap.size w w') : RdS w' g s off st := by
  obtain ⟨f, hr, hf⟩ := h
  exact ⟨f, hr.below hb, hf.below hb⟩

theorem RdS.lt {w : World} {g : Nat} {s : ByteArray} {off : Nat} {st : RSt} (h : RdS w g s off st) : g < w.heap.size := by
  obtain ⟨f, hr, hf⟩ := h
  exact hr.lt

theorem RdS.drew {w : World} {g : Nat} {s : ByteArray} {off : Nat} {st : RSt} (h : RdS w g s off st) : RdS w.drew g s off st := h

theorem bytes_of (s : ByteArray) (p n : Nat) : (s.extract p s.size).extract 0 n = ⟨((s.data.toList.drop p).take n).toArray⟩ := by
  apply ByteArray.ext
  apply Array.toList_inj.1
  rw [extract_list, Lib.extract_to_end]
  simp

theorem rest_size (s : ByteArray) (p : Nat) (hp : p ≤ s.size) : (s.extract p s.size).size = s.size - p := by rw [ByteArray.size_extract]; omega

theorem bytes_s {g : Nat} {s : ByteArray} {off : Nat} (st : RSt) (n : Int) (w : World) (h : RdS w g s off st) (hp : st.1 ≤ s.size) (hs : s.size ≤ 100) (ho : off ≤ 1099511627776) :
    Calls Tryd.prog 15 #[.pointer (some ⟨g, 0, none⟩), .int .i64 n] w fun e w' => e = .returned (.string ⟨(takeN s.data.toList off st n false).1.toArray⟩) ∧
      RdS w' g s off (takeN s.data.toList off st n false).2 ∧ w.grownBy w' (some g) := by
  obtain ⟨p, e0, pl⟩ := st
  obtain ⟨f, hr, hf⟩ := h
  have hz := rest_size s p hp
  have hLs : s.data.toList.length = s.size := by simp
  have hp' : p ≤ s.size := hp
  rcases hf with ⟨h0, rfl⟩ | ⟨h0, q, rfl, hq⟩
  · have h0' : e0 = 0 := h0
    subst h0'
    by_cases hn : n < 0
    · have HS : takeN s.data.toList off (p, 0, pl) n false = ([], p, 2, (off : Int) + p) := by simp [takeN, hn]
      rw [HS]
      refine (bytes_neg n w hr hn).mono ?_
      rintro e w' ⟨rfl, hr', hf', hg⟩
      exact ⟨rfl, ⟨_, hr', Or.inr ⟨(show (2 : Int) ≠ 0 by decide), _, rfl, hf'⟩⟩, hg⟩
    · by_cases hm : (s.size : Int) - p < n
      · have HS : takeN s.data.toList off (p, 0, pl) n false = ([], p, 7, (off : Int) + p) := by
          unfold takeN
          rw [if_neg (by simp), if_neg (by simp; omega), if_pos (by rw [hLs]; exact hm)]
        rw [HS]
        refine (bytes_missing n w hr (by rw [hz]; omega)).mono ?_
        rintro e w' ⟨rfl, hr', hf', hg⟩
        exact ⟨rfl, ⟨_, hr', Or.inr ⟨(show (7 : Int) ≠ 0 by decide), _, rfl, hf'⟩⟩, hg⟩
      · have HS : takeN s.data.toList off (p, 0, pl) n false = ((s.data.toList.drop p).take n.toNat, p + n.toNat, 0, pl) := by
          unfold takeN
          rw [if_neg (by simp), if_neg (by simp; omega), if_neg (by rw [hLs]; exact hm)]
        rw [HS]
        have hnn : n = ((n.toNat : Nat) : Int) := by omega
        rw [hnn]
        refine (bytes_read n.toNat w hr (by rw [hz]; omega) (by show (0 : Int) ≤ (off : Int) + (p : Int); omega) (by rw [hz]; show (off : Int) + (p : Int) + _ ≤ _; omega)).mono ?_
        rintro e w' ⟨rfl, hr', hg⟩
        refine ⟨?_, ⟨none, ?_, Or.inl ⟨rfl, rfl⟩⟩, hg⟩
        · rw [← bytes_of, Int.toNat_natCast]
        · have e1 := extract_extract s p n.toNat
          rw [Int.toNat_natCast]
          have e2 : (off : Int) + ((p + n.toNat : Nat) : Int) = (off : Int) + (p : Int) + (n.toNat : Int) := by omega
          show Rd w' g (s.extract (p + n.toNat) s.size) ((off : Int) + ((p + n.toNat : Nat) : Int)) none
          rw [e2, ← e1]
          exact hr'
  · have h0' : e0 ≠ 0 := h0
    have HS : takeN s.data.toList off (p, e0, pl) n false = ([], p, e0, pl) := by simp [takeN, h0']
    rw [HS]
    refine (bytes_noted n w hr).mono ?_
    rintro e w' ⟨rfl, rfl⟩
    exact ⟨rfl, ⟨_, hr, Or.inr ⟨h0, q, rfl, hq⟩⟩, World.grownBy.refl _ _⟩

theorem num_s {g : Nat} {s : ByteArray} {off : Nat} (st : RSt) (n : Int) (w : World) (h : RdS w g s off st) (hp : st.1 ≤ s.size) (hs : s.size ≤ 100) (ho : off ≤ 1099511627776) :
    Calls Tryd.prog 17 #[.pointer (some ⟨g, 0, none⟩), .int .i64 n] w fun e w' => e = .returned (.int .i64 (wrap64 (beN (takeN s.data.toList off st n true).1))) ∧
      RdS w' g s off (takeN s.data.toList off st n true).2 ∧ w.grownBy w' (some g) := by
  obtain ⟨p, e0, pl⟩ := st
  obtain ⟨f, hr, hf⟩ := h
  have hz := rest_size s p hp
  have hLs : s.data.toList.length = s.size := by simp
  have hp' : p ≤ s.size := hp
  have hnil : wrap64 (beN []) = 0 := by simp [beN, wrap64]
  rcases hf with ⟨h0, rfl⟩ | ⟨h0, q, rfl, hq⟩
  · have h0' : e0 = 0 := h0
    subst h0'
    by_cases hn : n < 1 ∨ 8 < n
    · have HS : takeN s.data.toList off (p, 0, pl) n true = ([], p, 2, (off : Int) + p) := by
        unfold takeN
        rw [if_neg (by simp), if_pos (Or.inr ⟨rfl, hn⟩)]
      rw [HS]
      refine (num_range n w hr hn).mono ?_
      rintro e w' ⟨rfl, hr', hf', hg⟩
      exact ⟨by rw [hnil], ⟨_, hr', Or.inr ⟨(show (2 : Int) ≠ 0 by decide), _, rfl, hf'⟩⟩, hg⟩
    · by_cases hm : (s.size : Int) - p < n
      · have HS : takeN s.data.toList off (p, 0, pl) n true = ([], p, 7, (off : Int) + p) := by
          unfold takeN
          rw [if_neg (by simp), if_neg (by intro q; rcases q with q | ⟨_, q⟩; omega; exact hn q), if_pos (by rw [hLs]; exact hm)]
        rw [HS]
        refine (num_missing n w hr (by omega) (by omega) (by rw [hz]; omega)).mono ?_
        rintro e w' ⟨rfl, hr', hf', hg⟩
        exact ⟨by rw [hnil], ⟨_, hr', Or.inr ⟨(show (7 : Int) ≠ 0 by decide), _, rfl, hf'⟩⟩, hg⟩
      · have HS : takeN s.data.toList off (p, 0, pl) n true = ((s.data.toList.drop p).take n.toNat, p + n.toNat, 0, pl) := by
          unfold takeN
          rw [if_neg (by simp), if_neg (by intro q; rcases q with q | ⟨_, q⟩; omega; exact hn q), if_neg (by rw [hLs]; exact hm)]
        rw [HS]
        have hnn : n = ((n.toNat : Nat) : Int) := by omega
        rw [hnn]
        refine (num_read n.toNat w hr (by omega) (by omega) (by rw [hz]; omega) (by show (0 : Int) ≤ (off : Int) + (p : Int); omega) (by rw [hz]; show (off : Int) + (p : Int) + _ ≤ _; omega)).mono ?_
        rintro e w' ⟨rfl, hr', hg⟩
        refine ⟨?_, ⟨none, ?_, Or.inl ⟨rfl, rfl⟩⟩, hg⟩
        · rw [Lib.extract_to_end, Int.toNat_natCast]
        · have e1 := extract_extract s p n.toNat
          rw [Int.toNat_natCast]
          have e2 : (off : Int) + ((p + n.toNat : Nat) : Int) = (off : Int) + (p : Int) + (n.toNat : Int) := by omega
          show Rd w' g (s.extract (p + n.toNat) s.size) ((off : Int) + ((p + n.toNat : Nat) : Int)) none
          rw [e2, ← e1]
          exact hr'
  · have h0' : e0 ≠ 0 := h0
    have HS : takeN s.data.toList off (p, e0, pl) n true = ([], p, e0, pl) := by simp [takeN, h0']
    rw [HS]
    by_cases hn : n < 1 ∨ 8 < n
    · refine (num_range_noted n w hr hn).mono ?_
      rintro e w' ⟨rfl, rfl⟩
      exact ⟨by rw [hnil], ⟨_, hr, Or.inr ⟨h0, q, rfl, hq⟩⟩, World.grownBy.refl _ _⟩
    · refine (num_noted n w hr (by omega) (by omega)).mono ?_
      rintro e w' ⟨rfl, hr', hg⟩
      exact ⟨by rw [hnil], ⟨_, hr', Or.inr ⟨h0, q, rfl, hq.kept hg (by simp)⟩⟩, ⟨hg.os, hg.tape, hg.output, hg.size, fun k hk _ => hg.block k hk (by simp)⟩⟩

theorem zeros_s {g : Nat} {s : ByteArray} {off : Nat} (st : RSt) (x2 : Int) (w : World) (h : RdS w g s off st) (hp : st.1 ≤ s.size) (hs : s.size ≤ 100) (ho : off ≤ 1099511627776) :
    Calls Tryd.prog 19 #[.pointer (some ⟨g, 0, none⟩)] w fun e w' => ∃ b, e = .returned (.bool b) ∧ Lib.formatBool b = (stepR s.data.toList off (2, x2) st).1 ∧
      RdS w' g s off (stepR s.data.toList off (2, x2) st).2 ∧ w.grownBy w' (some g) := by
  obtain ⟨p, e0, pl⟩ := st
  obtain ⟨f, hr, hf⟩ := h
  have hz := rest_size s p hp
  have hLs : s.data.toList.length = s.size := by simp
  have hp' : p ≤ s.size := hp
  have hdl : (s.data.toList.drop p).length = s.size - p := by rw [List.length_drop, hLs]
  have htl : (s.extract p s.size).data.toList = s.data.toList.drop p := Lib.extract_to_end _ _
  rcases hf with ⟨h0, rfl⟩ | ⟨h0, q, rfl, hq⟩
  · have h0' : e0 = 0 := h0
    subst h0'
    by_cases hc : Lib.trimLeftB (s.data.toList.drop p) 0 = []
    · have hl : lead (s.data.toList.drop p) = s.size - p := by unfold lead; rw [hc, hdl]; simp
      have HS : stepR s.data.toList off (2, x2) (p, 0, pl) = (Lib.formatBool true, s.size, 0, pl) := by
        simp only [stepR, hl]
        rw [if_neg (by decide), if_neg (by decide), if_pos trivial, if_neg (by decide), if_pos (by rw [hLs]; omega), hLs]
      rw [HS]
      refine (zeros_clean w hr (by show (0 : Int) ≤ (off : Int) + (p : Int); omega) (by rw [hz]; show (off : Int) + (p : Int) + _ ≤ _; omega) (by rw [htl]; exact hc)).mono ?_
      rintro e w' ⟨rfl, hr', hg⟩
      refine ⟨true, rfl, rfl, ⟨none, ?_, Or.inl ⟨rfl, rfl⟩⟩, hg⟩
      have e1 := extract_extract s p (s.size - p)
      have e2 : (off : Int) + (s.size : Int) = (off : Int) + (p : Int) + ((s.extract p s.size).size : Int) := by rw [hz]; omega
      have e3 : (s.extract p s.size).extract (s.extract p s.size).size (s.extract p s.size).size = s.extract s.size s.size := by rw [show p + (s.size - p) = s.size by omega, ← hz] at e1; exact e1
      show Rd w' g (s.extract s.size s.size) ((off : Int) + (s.size : Int)) none
      rw [e2, ← e3]
      exact hr'
    · have hne : ¬ p + lead (s.data.toList.drop p) = s.data.toList.length := by
        intro q
        have hle := trim_le (s.data.toList.drop p)
        have : (Lib.trimLeftB (s.data.toList.drop p) 0).length = 0 := by unfold lead at q; rw [hdl] at q hle; rw [hLs] at q; omega
        exact hc (List.eq_nil_of_length_eq_zero this)
      have HS : stepR s.data.toList off (2, x2) (p, 0, pl) = (Lib.formatBool false, p + lead (s.data.toList.drop p), 15, (off : Int) + (p + lead (s.data.toList.drop p) : Nat)) := by
        simp only [stepR]
        rw [if_neg (by decide), if_neg (by decide), if_pos trivial, if_neg (by decide), if_neg hne]
      rw [HS]
      refine (zeros_spoilt w hr (by show (0 : Int) ≤ (off : Int) + (p : Int); omega) (by rw [hz]; show (off : Int) + (p : Int) + _ ≤ _; omega) (by rw [htl]; exact hc)).mono ?_
      rintro e w' ⟨rfl, q, hq, hr', hf', hg⟩
      rw [htl] at hr' hf'
      have e2 : (off : Int) + ((p + lead (s.data.toList.drop p) : Nat) : Int) = (off : Int) + (p : Int) + (lead (s.data.toList.drop p) : Int) := by omega
      refine ⟨false, rfl, rfl, ⟨some ⟨q, 0, none⟩, ?_, Or.inr ⟨(show (15 : Int) ≠ 0 by decide), q, rfl, ?_⟩⟩, hg⟩
      · have e1 := extract_extract s p (lead (s.data.toList.drop p))
        show Rd w' g (s.extract (p + lead (s.data.toList.drop p)) s.size) ((off : Int) + ((p + lead (s.data.toList.drop p) : Nat) : Int)) _
        rw [e2, ← e1]
        exact hr'
      · show Flt w' q 15 ((off : Int) + ((p + lead (s.data.toList.drop p) : Nat) : Int))
        rw [e2]
        exact hf'
  · have h0' : e0 ≠ 0 := h0
    have HS : stepR s.data.toList off (2, x2) (p, e0, pl) = (Lib.formatBool false, p, e0, pl) := by simp [stepR, h0']
    rw [HS]
    refine (zeros_noted w hr).mono ?_
    rintro e w' ⟨rfl, rfl⟩
    exact ⟨false, rfl, rfl, ⟨_, hr, Or.inr ⟨h0, q, rfl, hq⟩⟩, World.grownBy.refl _ _⟩

theorem fail_s {g : Nat} {s : ByteArray} {off : Nat} (st : RSt) (x2 : Int) (w : World) (h : RdS w g s off st) :
    Calls Tryd.prog 25 #[.pointer (some ⟨g, 0, none⟩), .int .i64 6, .int .i64 x2] w fun e w' => e = .returned (.tuple #[]) ∧ RdS w' g s off (stepR s.data.toList off (4, x2) st).2 ∧ w.grownBy w' (some g) := by
  obtain ⟨p, e0, pl⟩ := st
  obtain ⟨f, hr, hf⟩ := h
  rcases hf with ⟨h0, rfl⟩ | ⟨h0, q, rfl, hq⟩
  · have h0' : e0 = 0 := h0
    subst h0'
    have HS : stepR s.data.toList off (4, x2) (p, 0, pl) = ([], p, 6, x2) := by simp [stepR]
    rw [HS]
    refine (fail_first 6 x2 w hr).mono ?_
    rintro e w' ⟨rfl, hr', hf', hg⟩
    exact ⟨rfl, ⟨_, hr', Or.inr ⟨(show (6 : Int) ≠ 0 by decide), _, rfl, hf'⟩⟩, hg⟩
  · have h0' : e0 ≠ 0 := h0
    have HS : stepR s.data.toList off (4, x2) (p, e0, pl) = ([], p, e0, pl) := by simp [stepR, h0']
    rw [HS]
    refine (fail_noted 6 x2 w hr).mono ?_
    rintro e w' ⟨rfl, rfl⟩
    exact ⟨rfl, ⟨_, hr, Or.inr ⟨h0, q, rfl, hq⟩⟩, World.grownBy.refl _ _⟩

/-- Sub: a new Reader, behind all that was there. -/
theorem sub_s {g : Nat} {s : ByteArray} {off : Nat} (st : RSt) (n : Int) (w : World) (h : RdS w g s off st) (hp : st.1 ≤ s.size) (hs : s.size ≤ 100) (ho : off ≤ 1099511627776) :
    Calls Tryd.prog 20 #[.pointer (some ⟨g, 0, none⟩), .int .i64 n] w fun e w' => ∃ f, e = .returned (.pointer (some ⟨w.heap.size, 0, none⟩)) ∧
      Rd w' w.heap.size ⟨(takeN s.data.toList off st n false).1.toArray⟩ ((off : Int) + (st.1 : Int)) f ∧ Fs w' (takeN s.data.toList off st n false).2.2.1 (takeN s.data.toList off st n false).2.2.2 f ∧
      Rd w' g (s.extract (takeN s.data.toList off st n false).2.1 s.size) ((off : Int) + ((takeN s.data.toList off st n false).2.1 : Int)) f ∧ w.grownBy w' (some g) := by
  obtain ⟨p, e0, pl⟩ := st
  obtain ⟨f, hr, hf⟩ := h
  have hz := rest_size s p hp
  have hLs : s.data.toList.length = s.size := by simp
  have hp' : p ≤ s.size := hp
  rcases hf with ⟨h0, rfl⟩ | ⟨h0, q, rfl, hq⟩
  · have h0' : e0 = 0 := h0
    subst h0'
    by_cases hn : n < 0
    · have HS : takeN s.data.toList off (p, 0, pl) n false = ([], p, 2, (off : Int) + p) := by simp [takeN, hn]
      rw [HS]
      refine (sub_neg n w hr hn).mono ?_
      rintro e w' ⟨q, hq, ⟨rfl, hb', hr', hg⟩, hf'⟩
      exact ⟨_, rfl, hb', Or.inr ⟨(show (2 : Int) ≠ 0 by decide), _, rfl, hf'⟩, hr', hg⟩
    · by_cases hm : (s.size : Int) - p < n
      · have HS : takeN s.data.toList off (p, 0, pl) n false = ([], p, 7, (off : Int) + p) := by
          unfold takeN
          rw [if_neg (by simp), if_neg (by simp; omega), if_pos (by rw [hLs]; exact hm)]
        rw [HS]
        refine (sub_missing n w hr (by rw [hz]; omega)).mono ?_
        rintro e w' ⟨q, hq, ⟨rfl, hb', hr', hg⟩, hf'⟩
        exact ⟨_, rfl, hb', Or.inr ⟨(show (7 : Int) ≠ 0 by decide), _, rfl, hf'⟩, hr', hg⟩
      · have HS : takeN s.data.toList off (p, 0, pl) n false = ((s.data.toList.drop p).take n.toNat, p + n.toNat, 0, pl) := by
          unfold takeN
          rw [if_neg (by simp), if_neg (by simp; omega), if_neg (by rw [hLs]; exact hm)]
        rw [HS]
        have hnn : n = ((n.toNat : Nat) : Int) := by omega
        rw [hnn]
        refine (sub_read n.toNat w hr (by rw [hz]; omega) (by show (0 : Int) ≤ (off : Int) + (p : Int); omega) (by rw [hz]; show (off : Int) + (p : Int) + _ ≤ _; omega)).mono ?_
        rintro e w' ⟨rfl, hb', hr', hg⟩
        rw [bytes_of] at hb'
        refine ⟨none, rfl, by rw [Int.toNat_natCast]; exact hb', Or.inl ⟨rfl, rfl⟩, ?_, hg⟩
        have e1 := extract_extract s p n.toNat
        rw [Int.toNat_natCast]
        have e2 : (off : Int) + ((p + n.toNat : Nat) : Int) = (off : Int) + (p : Int) + (n.toNat : Int) := by omega
        show Rd w' g (s.extract (p + n.toNat) s.size) ((off : Int) + ((p + n.toNat : Nat) : Int)) none
        rw [e2, ← e1]
        exact hr'
  · have h0' : e0 ≠ 0 := h0
    have HS : takeN s.data.toList off (p, e0, pl) n false = ([], p, e0, pl) := by simp [takeN, h0']
    rw [HS]
    refine (sub_noted n w hr).mono ?_
    rintro e w' ⟨rfl, hb', hr', hg⟩
    exact ⟨_, rfl, hb', Or.inr ⟨h0, q, rfl, hq.kept hg (by intro e1; cases e1; exact rd_ne_flt hr hq rfl)⟩, hr', hg⟩

/-- Where something is noted, nothing was read. -/
theorem takeN_noted (s : List UInt8) (off : Nat) (st : RSt) (n : Int) (num : Bool) (h : (takeN s off st n num).2.2.1 ≠ 0) : (takeN s off st n num).1 = [] := by
  unfold takeN at h ⊢
  split
  · rfl
  · rename_i h1
    rw [if_neg h1] at h
    split
    · rfl
    · rename_i h2
      rw [if_neg h2] at h
      split
      · rfl
      · rename_i h3
        rw [if_neg h3] at h
        exact absurd h h1

/-- Err, at either. -/
theorem err_e {g : Nat} {s : ByteArray} {n e pl : Int} {f : Option Addr} (w : World) (h : Rd w g s n f) (hf : Fs w e pl f) (he : e ≠ 0) :
    Calls Tryd.prog 23 #[.pointer (some ⟨g, 0, none⟩)] w fun r w' => ∃ q, r = .returned (.iface 64 (.pointer (some ⟨q, 0, none⟩))) ∧ Flt w' q e pl ∧ Below w.heap.size w w' := by
  rcases hf with ⟨h0, rfl⟩ | ⟨h0, q, rfl, hq⟩
  · exact absurd h0 he
  · exact (err_some w h hq).mono (by rintro e w' ⟨rfl, rfl⟩; exact ⟨_, rfl, flt_new _ _ _, (Below.refl _ _).alloc (Nat.le_refl _) _⟩)

theorem err_z {g : Nat} {s : ByteArray} {n pl : Int} {f : Option Addr} (w : World) (h : Rd w g s n f) (hf : Fs w 0 pl f) :
    Calls Tryd.prog 23 #[.pointer (some ⟨g, 0, none⟩)] w fun r w' => r = .returned .nilIface ∧ w = w' := by
  rcases hf with ⟨_, rfl⟩ | ⟨h0, _⟩
  · exact err_none w h
  · exact absurd rfl h0

/-- Bytes of all that a Sub has. -/
theorem sub_all {g : Nat} {t : ByteArray} {a e pl : Int} {f : Option Addr} (z : Int) (w : World) (h : Rd w g t a f) (hf : Fs w e pl f) (hz : z = (t.size : Int)) (ht : e ≠ 0 → t = ⟨#[]⟩) (ha : 0 ≤ a) (hb : a + t.size ≤ 281474976710656) :
    Calls Tryd.prog 15 #[.pointer (some ⟨g, 0, none⟩), .int .i64 z] w fun r w' => r = .returned (.string t) ∧ Rd w' g (t.extract t.size t.size) (a + t.size) f ∧ w.grownBy w' (some g) := by
  subst hz
  rcases hf with ⟨h0, rfl⟩ | ⟨h0, q, rfl, hq⟩
  · refine (bytes_read t.size w h (Nat.le_refl _) ha hb).mono ?_
    rintro r w' ⟨rfl, hr, hg⟩
    refine ⟨?_, hr, hg⟩
    have e1 : t.extract 0 t.size = t := by
      apply ByteArray.ext
      apply Array.toList_inj.1
      rw [extract_list, List.drop_zero, List.take_of_length_le (by simp)]
    rw [e1]
  · obtain rfl := ht h0
    refine (bytes_noted _ w h).mono ?_
    rintro r w' ⟨rfl, rfl⟩
    refine ⟨rfl, ?_, World.grownBy.refl _ _⟩
    have e1 : (⟨#[]⟩ : ByteArray).extract (⟨#[]⟩ : ByteArray).size (⟨#[]⟩ : ByteArray).size = ⟨#[]⟩ := by decide
    rw [e1]
    show Rd w g ⟨#[]⟩ (a + 0) (some ⟨q, 0, none⟩)
    rw [Int.add_zero]
    exact h
end Go.Proofs.YtiikdmempgmlnaaDoor
