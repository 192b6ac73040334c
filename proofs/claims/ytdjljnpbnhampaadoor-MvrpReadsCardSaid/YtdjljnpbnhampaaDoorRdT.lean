/- A wire.Reader beside the plain answer: what Bytes, Num, Fail, Zeros and Err do in any state. -/
import Derived.Test.YtdjljnpbnhampaaDoorRdNum
import Derived.Test.YtdjljnpbnhampaaDoorFlt
import Derived.Test.YtdjljnpbnhampaaDoorBlk
namespace Go.Proofs.YtdjljnpbnhampaaDoor
open Go.RowKit
set_option linter.unusedVariables false

/-- How much is read; what was wrong first (0: nothing), and where (-1: nowhere). -/
abbrev RSt := Nat × Int × Int

/-- The next n bytes (num: of a number). -/
def tkN (s : List UInt8) (off : Nat) (st : RSt) (n : Int) (num : Bool) : List UInt8 × RSt :=
  if st.2.1 ≠ 0 then ([], st)
  else if n < 0 ∨ (num = true ∧ (n < 1 ∨ 8 < n)) then ([], st.1, 2, (off : Int) + st.1)
  else if (s.length : Int) - st.1 < n then ([], st.1, 7, (off : Int) + st.1)
  else ((s.drop st.1).take n.toNat, st.1 + n.toNat, st.2)

/-- What is wrong is noted, if it is the first. -/
def flR (st : RSt) (e pl : Int) : RSt := if st.2.1 ≠ 0 then st else (st.1, e, pl)

theorem tkN_le (s : List UInt8) (off : Nat) (st : RSt) (n : Int) (num : Bool) (h : st.1 ≤ s.length) : (tkN s off st n num).2.1 ≤ s.length := by
  unfold tkN
  split
  · exact h
  · split
    · exact h
    · split
      · exact h
      · show st.1 + n.toNat ≤ s.length
        omega

theorem flR_le (s : List UInt8) (st : RSt) (e pl : Int) (h : st.1 ≤ s.length) : (flR st e pl).1 ≤ s.length := by
  unfold flR
  split <;> exact h

/-- Once noted, always noted. -/
theorem tkN_bad (s : List UInt8) (off : Nat) (st : RSt) (n : Int) (num : Bool) (h : st.2.1 ≠ 0) : tkN s off st n num = ([], st) := by unfold tkN; rw [if_pos h]

theorem flR_bad (st : RSt) (e pl : Int) (h : st.2.1 ≠ 0) : flR st e pl = st := by unfold flR; rw [if_pos h]

theorem flR_ne (st : RSt) (e pl : Int) (he : e ≠ 0) : (flR st e pl).2.1 ≠ 0 := by
  unfold flR
  split
  · assumption
  · exact he

/-- Bytes come if nothing was wrong before, and they are there. -/
theorem tkN_ok (s : List UInt8) (off : Nat) (st : RSt) (n : Nat) (num : Bool) (h : (tkN s off st n num).2.2.1 = 0) : st.2.1 = 0 ∧ st.1 + n ≤ s.length ∧ tkN s off st n num = ((s.drop st.1).take n, st.1 + n, st.2) := by
  unfold tkN at h ⊢
  by_cases h1 : st.2.1 ≠ 0
  · rw [if_pos h1] at h; exact absurd h h1
  · rw [if_neg h1] at h ⊢
    by_cases h2 : (n : Int) < 0 ∨ (num = true ∧ ((n : Int) < 1 ∨ 8 < (n : Int)))
    · rw [if_pos h2] at h; exact absurd (show (2 : Int) = 0 from h) (by decide)
    · rw [if_neg h2] at h ⊢
      by_cases h3 : (s.length : Int) - st.1 < n
      · rw [if_pos h3] at h; exact absurd (show (7 : Int) = 0 from h) (by decide)
      · rw [if_neg h3]
        exact ⟨by simpa using h1, by omega, by simp⟩

theorem tkN_go (s : List UInt8) (off : Nat) (st : RSt) (n : Nat) (num : Bool) (h : st.2.1 = 0) (hn : st.1 + n ≤ s.length) (hw : num = true → 1 ≤ n ∧ n ≤ 8) : tkN s off st n num = ((s.drop st.1).take n, st.1 + n, st.2) := by
  unfold tkN
  rw [if_neg (by simpa using h), if_neg (by intro q; rcases q with q | ⟨q, q2⟩; omega; have := hw q; omega), if_neg (by omega)]
  simp

theorem tkN_miss (s : List UInt8) (off : Nat) (st : RSt) (n : Nat) (num : Bool) (h : st.2.1 = 0) (hn : ¬ st.1 + n ≤ s.length) (hp : st.1 ≤ s.length) (hw : num = true → 1 ≤ n ∧ n ≤ 8) : tkN s off st n num = ([], st.1, 7, (off : Int) + st.1) := by
  unfold tkN
  rw [if_neg (by simpa using h), if_neg (by intro q; rcases q with q | ⟨q, q2⟩; omega; have := hw q; omega), if_pos (by omega)]

/-- All of them, or none. -/
theorem tkN_len (s : List UInt8) (off : Nat) (st : RSt) (n : Nat) (num : Bool) : (tkN s off st n num).1 = [] ∨ (tkN s off st n num).1.length = n := by
  unfold tkN
  split
  · exact Or.inl rfl
  · split
    · exact Or.inl rfl
    · split
      · exact Or.inl rfl
      · right
        show ((s.drop st.1).take (n : Int).toNat).length = n
        rw [List.length_take, List.length_drop]
        omega

/-- What is noted (e, at pl) lies at f. -/
def FsT (w : World) (e pl : Int) (f : Option Addr) : Prop := (e = 0 ∧ f = none) ∨ (e ≠ 0 ∧ ∃ q, f = some ⟨q, 0, none⟩ ∧ Flt w q e pl)

/-- Reader g is where st says. -/
def RdT (w : World) (g : Nat) (s : ByteArray) (off : Nat) (st : RSt) : Prop := ∃ f, Rd w g (s.extract st.1 s.size) ((off : Int) + (st.1 : Int)) f ∧ FsT w st.2.1 st.2.2 f

theorem rdT_ne_flt {w : World} {g q : Nat} {s : ByteArray} {a e pl : Int} {f : Option Addr} (h : Rd w g s a f) (hf : Flt w q e pl) : q ≠ g := by
  intro e0
  subst e0
  have h1 : w.heap[q]? = some (.cells #[.string s, .int .i64 a, .pointer f] 160) := h
  have h2 : w.heap[q]? = some (.cells #[.int .i64 e, .int .i64 pl] 144) := hf
  have h3 := h1.symm.trans h2
  injection h3 with h3
  injection h3 with h3 h4
  exact absurd h4 (by decide)

theorem FsT.kept {w w' : World} {g : Nat} {s : ByteArray} {a e pl : Int} {f f' : Option Addr} (h : FsT w e pl f) (hr : Rd w g s a f') (hg : w.grownBy w' (some g)) : FsT w' e pl f := by
  rcases h with h | ⟨he, q, hq, hf⟩
  · exact Or.inl h
  · exact Or.inr ⟨he, q, hq, hf.kept hg (by intro e1; cases e1; exact rdT_ne_flt hr hf rfl)⟩

theorem FsT.below {w w' : World} {e pl : Int} {f : Option Addr} (h : FsT w e pl f) (hb : Below w.heap.size w w') : FsT w' e pl f := by
  rcases h with h | ⟨he, q, hq, hf⟩
  · exact Or.inl h
  · exact Or.inr ⟨he, q, hq, hf.below hb⟩

theorem RdT.below {w w' : World} {g : Nat} {s : ByteArray} {off : Nat} {st : RSt} (h : RdT w g s off st) (hb : Below w.heap.size w w') : RdT w' g s off st := by
  obtain ⟨f, hr, hf⟩ := h
  exact ⟨f, hr.below hb, hf.below hb⟩

theorem RdT.lt {w : World} {g : Nat} {s : ByteArray} {off : Nat} {st : RSt} (h : RdT w g s off st) : g < w.heap.size := by
  obtain ⟨f, hr, hf⟩ := h
  exact hr.lt

theorem RdT.drew {w : World} {g : Nat} {s : ByteArray} {off : Nat} {st : RSt} (h : RdT w g s off st) : RdT w.drew g s off st := h

theorem RdT.ne {w : World} {g B : Nat} {s : ByteArray} {off : Nat} {st : RSt} {T : TypeId} {C : Array Value} (h : RdT w g s off st) (hB : Blk w B T C) (hT : T ≠ 160) : B ≠ g := by
  intro e0
  subst e0
  obtain ⟨f, hr, _⟩ := h
  have h1 : w.heap[B]? = some (.cells _ 160 (0, 0)) := hr
  have h2 : w.heap[B]? = some (.cells C T (0, 0)) := hB
  have h3 := h1.symm.trans h2
  injection h3 with h3
  injection h3 with h3 h4
  exact hT h4.symm

/-- Another block of another type is written. -/
theorem RdT.other {w w' : World} {g B : Nat} {s : ByteArray} {off : Nat} {st : RSt} {T : TypeId} {C : Array Value} (h : RdT w g s off st) (hB : Blk w B T C) (hT : T ≠ 160) (hT2 : T ≠ 144) (hg : w.grownBy w' (some B)) : RdT w' g s off st := by
  have hne := h.ne hB hT
  obtain ⟨f, hr, hf⟩ := h
  refine ⟨f, hr.kept hg (by simpa using Ne.symm hne), ?_⟩
  rcases hf with hf | ⟨he, q, hq, hf⟩
  · exact Or.inl hf
  · refine Or.inr ⟨he, q, hq, hf.kept hg ?_⟩
    intro e1
    have e1 : q = B := by simpa using e1
    subst e1
    have h1 : w.heap[q]? = some (.cells #[.int .i64 st.2.1, .int .i64 st.2.2] 144) := hf
    have h2 : w.heap[q]? = some (.cells C T (0, 0)) := hB
    have h3 := h1.symm.trans h2
    injection h3 with h3
    injection h3 with h3 h4
    exact hT2 h4.symm

/-- A block of another type stays while the reader reads. -/
theorem Blk.reads {w w' : World} {g B : Nat} {s : ByteArray} {off : Nat} {st : RSt} {T : TypeId} {C : Array Value} (hB : Blk w B T C) (h : RdT w g s off st) (hT : T ≠ 160) (hg : w.grownBy w' (some g)) : Blk w' B T C :=
  hB.grown hg (by simpa using h.ne hB hT)

theorem bytesT_of (s : ByteArray) (p n : Nat) : (s.extract p s.size).extract 0 n = ⟨((s.data.toList.drop p).take n).toArray⟩ := by
  apply ByteArray.ext
  apply Array.toList_inj.1
  rw [extract_list, Lib.extract_to_end]
  simp

theorem restT_size (s : ByteArray) (p : Nat) (hp : p ≤ s.size) : (s.extract p s.size).size = s.size - p := by rw [ByteArray.size_extract]; omega

theorem new_t (s : ByteArray) (off : Nat) (w : World) :
    Calls Tryd.prog 38 #[.string s, .int .i64 off] w fun e w' =>
      e = .returned (.pointer (some ⟨w.heap.size, 0, none⟩)) ∧ RdT w' w.heap.size s off (0, 0, -1) ∧ Below w.heap.size w w' := by
  refine (new_any s off w).mono ?_
  rintro e w' ⟨rfl, rfl⟩
  refine ⟨rfl, ⟨none, ?_, Or.inl ⟨rfl, rfl⟩⟩, (Below.refl _ _).alloc (Nat.le_refl _) _⟩
  have e1 : s.extract 0 s.size = s := by
    apply ByteArray.ext
    apply Array.toList_inj.1
    rw [extract_list, List.drop_zero, List.take_of_length_le (by simp)]
  show Rd _ _ (s.extract 0 s.size) ((off : Int) + ((0 : Nat) : Int)) none
  rw [e1, show (off : Int) + ((0 : Nat) : Int) = (off : Int) by omega]
  show (w.heap.push _)[w.heap.size]? = _
  simp

theorem bytes_t {g : Nat} {s : ByteArray} {off : Nat} (st : RSt) (n : Int) (w : World) (h : RdT w g s off st) (hp : st.1 ≤ s.size) (hb : off + s.size ≤ 281474976710656) :
    Calls Tryd.prog 43 #[.pointer (some ⟨g, 0, none⟩), .int .i64 n] w fun e w' => e = .returned (.string ⟨(tkN s.data.toList off st n false).1.toArray⟩) ∧
      RdT w' g s off (tkN s.data.toList off st n false).2 ∧ w.grownBy w' (some g) := by
  obtain ⟨p, e0, pl⟩ := st
  obtain ⟨f, hr, hf⟩ := h
  have hz := restT_size s p hp
  have hLs : s.data.toList.length = s.size := by simp
  have hp' : p ≤ s.size := hp
  rcases hf with ⟨h0, rfl⟩ | ⟨h0, q, rfl, hq⟩
  · have h0' : e0 = 0 := h0
    subst h0'
    by_cases hn : n < 0
    · have HS : tkN s.data.toList off (p, 0, pl) n false = ([], p, 2, (off : Int) + p) := by simp [tkN, hn]
      rw [HS]
      refine (bytes_neg n w hr hn).mono ?_
      rintro e w' ⟨rfl, hr', hf', hg⟩
      exact ⟨rfl, ⟨_, hr', Or.inr ⟨(show (2 : Int) ≠ 0 by decide), _, rfl, hf'⟩⟩, hg⟩
    · by_cases hm : (s.size : Int) - p < n
      · have HS : tkN s.data.toList off (p, 0, pl) n false = ([], p, 7, (off : Int) + p) := by
          unfold tkN
          rw [if_neg (by simp), if_neg (by simp; omega), if_pos (by rw [hLs]; exact hm)]
        rw [HS]
        refine (bytes_missing n w hr (by rw [hz]; omega)).mono ?_
        rintro e w' ⟨rfl, hr', hf', hg⟩
        exact ⟨rfl, ⟨_, hr', Or.inr ⟨(show (7 : Int) ≠ 0 by decide), _, rfl, hf'⟩⟩, hg⟩
      · have HS : tkN s.data.toList off (p, 0, pl) n false = ((s.data.toList.drop p).take n.toNat, p + n.toNat, 0, pl) := by
          unfold tkN
          rw [if_neg (by simp), if_neg (by simp; omega), if_neg (by rw [hLs]; exact hm)]
        rw [HS]
        have hnn : n = ((n.toNat : Nat) : Int) := by omega
        rw [hnn]
        refine (bytes_read n.toNat w hr (by rw [hz]; omega) (by show (0 : Int) ≤ (off : Int) + (p : Int); omega) (by rw [hz]; show (off : Int) + (p : Int) + _ ≤ _; omega)).mono ?_
        rintro e w' ⟨rfl, hr', hg⟩
        refine ⟨?_, ⟨none, ?_, Or.inl ⟨rfl, rfl⟩⟩, hg⟩
        · rw [← bytesT_of, Int.toNat_natCast]
        · have e1 := extract_extract s p n.toNat
          rw [Int.toNat_natCast]
          have e2 : (off : Int) + ((p + n.toNat : Nat) : Int) = (off : Int) + (p : Int) + (n.toNat : Int) := by omega
          show Rd w' g (s.extract (p + n.toNat) s.size) ((off : Int) + ((p + n.toNat : Nat) : Int)) none
          rw [e2, ← e1]
          exact hr'
  · have h0' : e0 ≠ 0 := h0
    have HS : tkN s.data.toList off (p, e0, pl) n false = ([], p, e0, pl) := by simp [tkN, h0']
    rw [HS]
    refine (bytes_noted n w hr).mono ?_
    rintro e w' ⟨rfl, rfl⟩
    exact ⟨rfl, ⟨_, hr, Or.inr ⟨h0, q, rfl, hq⟩⟩, World.grownBy.refl _ _⟩

theorem num_t {g : Nat} {s : ByteArray} {off : Nat} (st : RSt) (n : Int) (w : World) (h : RdT w g s off st) (hp : st.1 ≤ s.size) (hb : off + s.size ≤ 281474976710656) :
    Calls Tryd.prog 44 #[.pointer (some ⟨g, 0, none⟩), .int .i64 n] w fun e w' => e = .returned (.int .i64 (wrap64 (beN (tkN s.data.toList off st n true).1))) ∧
      RdT w' g s off (tkN s.data.toList off st n true).2 ∧ w.grownBy w' (some g) := by
  obtain ⟨p, e0, pl⟩ := st
  obtain ⟨f, hr, hf⟩ := h
  have hz := restT_size s p hp
  have hLs : s.data.toList.length = s.size := by simp
  have hp' : p ≤ s.size := hp
  have hnil : wrap64 (beN []) = 0 := by simp [beN, wrap64]
  rcases hf with ⟨h0, rfl⟩ | ⟨h0, q, rfl, hq⟩
  · have h0' : e0 = 0 := h0
    subst h0'
    by_cases hn : n < 1 ∨ 8 < n
    · have HS : tkN s.data.toList off (p, 0, pl) n true = ([], p, 2, (off : Int) + p) := by
        unfold tkN
        rw [if_neg (by simp), if_pos (Or.inr ⟨rfl, hn⟩)]
      rw [HS]
      refine (num_range n w hr hn).mono ?_
      rintro e w' ⟨rfl, hr', hf', hg⟩
      exact ⟨by rw [hnil], ⟨_, hr', Or.inr ⟨(show (2 : Int) ≠ 0 by decide), _, rfl, hf'⟩⟩, hg⟩
    · by_cases hm : (s.size : Int) - p < n
      · have HS : tkN s.data.toList off (p, 0, pl) n true = ([], p, 7, (off : Int) + p) := by
          unfold tkN
          rw [if_neg (by simp), if_neg (by intro q; rcases q with q | ⟨_, q⟩; omega; exact hn q), if_pos (by rw [hLs]; exact hm)]
        rw [HS]
        refine (num_missing n w hr (by omega) (by omega) (by rw [hz]; omega)).mono ?_
        rintro e w' ⟨rfl, hr', hf', hg⟩
        exact ⟨by rw [hnil], ⟨_, hr', Or.inr ⟨(show (7 : Int) ≠ 0 by decide), _, rfl, hf'⟩⟩, hg⟩
      · have HS : tkN s.data.toList off (p, 0, pl) n true = ((s.data.toList.drop p).take n.toNat, p + n.toNat, 0, pl) := by
          unfold tkN
          rw [if_neg (by simp), if_neg (by intro q; rcases q with q | ⟨_, q⟩; omega; exact hn q), if_neg (by rw [hLs]; exact hm)]
        rw [HS]
        have hnn : n = ((n.toNat : Nat) : Int) := by omega
        rw [hnn]
        refine (num_read n.toNat w hr (by omega) (by omega) (by rw [hz]; omega) (by show (0 : Int) ≤ (off : Int) + (p : Int); omega) (by rw [hz]; show (off : Int) + (p : Int) + _ ≤ _; omega)).mono ?_
        rintro e w' ⟨rfl, hr', hg⟩
        refine ⟨?_, ⟨none, ?_, Or.inl ⟨rfl, rfl⟩⟩, hg⟩
        · rw [Lib.extract_to_end, Int.toNat_natCast]
        · have e1 := extract_extract s p n.toNat
          rw [Int.toNat_natCast]
          have e2 : (off : Int) + ((p + n.toNat : Nat) : Int) = (off : Int) + (p : Int) + (n.toNat : Int) := by omega
          show Rd w' g (s.extract (p + n.toNat) s.size) ((off : Int) + ((p + n.toNat : Nat) : Int)) none
          rw [e2, ← e1]
          exact hr'
  · have h0' : e0 ≠ 0 := h0
    have HS : tkN s.data.toList off (p, e0, pl) n true = ([], p, e0, pl) := by simp [tkN, h0']
    rw [HS]
    by_cases hn : n < 1 ∨ 8 < n
    · refine (num_range_noted n w hr hn).mono ?_
      rintro e w' ⟨rfl, rfl⟩
      exact ⟨by rw [hnil], ⟨_, hr, Or.inr ⟨h0, q, rfl, hq⟩⟩, World.grownBy.refl _ _⟩
    · refine (num_noted n w hr (by omega) (by omega)).mono ?_
      rintro e w' ⟨rfl, hr', hg⟩
      exact ⟨by rw [hnil], ⟨_, hr', Or.inr ⟨h0, q, rfl, hq.kept hg (by simp)⟩⟩, ⟨hg.os, hg.tape, hg.output, hg.size, fun k hk _ => hg.block k hk (by simp)⟩⟩

theorem fail_t {g : Nat} {s : ByteArray} {off : Nat} (st : RSt) (e1 x2 : Int) (he : e1 ≠ 0) (w : World) (h : RdT w g s off st) :
    Calls Tryd.prog 61 #[.pointer (some ⟨g, 0, none⟩), .int .i64 e1, .int .i64 x2] w fun e w' => e = .returned (.tuple #[]) ∧ RdT w' g s off (flR st e1 x2) ∧ w.grownBy w' (some g) := by
  obtain ⟨p, e0, pl⟩ := st
  obtain ⟨f, hr, hf⟩ := h
  rcases hf with ⟨h0, rfl⟩ | ⟨h0, q, rfl, hq⟩
  · have h0' : e0 = 0 := h0
    subst h0'
    have HS : flR (p, 0, pl) e1 x2 = (p, e1, x2) := by simp [flR]
    rw [HS]
    refine (fail_first e1 x2 w hr).mono ?_
    rintro e w' ⟨rfl, hr', hf', hg⟩
    exact ⟨rfl, ⟨_, hr', Or.inr ⟨he, _, rfl, hf'⟩⟩, hg⟩
  · have h0' : e0 ≠ 0 := h0
    have HS : flR (p, e0, pl) e1 x2 = (p, e0, pl) := by simp [flR, h0']
    rw [HS]
    refine (fail_noted e1 x2 w hr).mono ?_
    rintro e w' ⟨rfl, rfl⟩
    exact ⟨rfl, ⟨_, hr, Or.inr ⟨h0, q, rfl, hq⟩⟩, World.grownBy.refl _ _⟩

theorem err_t {g : Nat} {s : ByteArray} {off : Nat} (st : RSt) (w : World) (h : RdT w g s off st) (he : st.2.1 ≠ 0) :
    Calls Tryd.prog 47 #[.pointer (some ⟨g, 0, none⟩)] w fun r w' => r = .returned (.iface 142 (.pointer (some ⟨w.heap.size, 0, none⟩))) ∧ Flt w' w.heap.size st.2.1 st.2.2 ∧ Below w.heap.size w w' := by
  obtain ⟨f, hr, hf⟩ := h
  rcases hf with ⟨h0, rfl⟩ | ⟨h0, q, rfl, hq⟩
  · exact absurd h0 he
  · exact (err_some w hr hq).mono (by rintro e w' ⟨rfl, rfl⟩; exact ⟨rfl, heap_alloc_new _ _, (Below.refl _ _).alloc (Nat.le_refl _) _⟩)

theorem err_ok {g : Nat} {s : ByteArray} {off : Nat} (st : RSt) (w : World) (h : RdT w g s off st) (he : st.2.1 = 0) :
    Calls Tryd.prog 47 #[.pointer (some ⟨g, 0, none⟩)] w fun r w' => r = .returned .nilIface ∧ w = w' := by
  obtain ⟨f, hr, hf⟩ := h
  rcases hf with ⟨_, rfl⟩ | ⟨h0, _⟩
  · exact err_none w hr
  · exact absurd he h0

end Go.Proofs.YtdjljnpbnhampaaDoor
