/- Numbers of a few bytes out of a wire.Reader in any state; where it is. -/
import Derived.Test.YtdjljnpbnhampaaDoorRdT
import Derived.Test.YtdjljnpbnhampaaDoorBy
namespace Go.Proofs.YtdjljnpbnhampaaDoor
open Go.RowKit
attribute [local go_sem ↓] Go.wp_at_zero Go.wp_at_succ
set_option linter.unusedSimpArgs false
set_option linter.unusedVariables false
set_option maxRecDepth 100000

/-- A number of a few bytes, as it is read. -/
def nmV (l : List UInt8) (off : Nat) (st : RSt) (n : Int) : Nat := beN (tkN l off st n true).1

def nmS (l : List UInt8) (off : Nat) (st : RSt) (n : Int) : RSt := (tkN l off st n true).2

theorem nmV_lt (l : List UInt8) (off : Nat) (st : RSt) (n : Nat) : nmV l off st n < 256 ^ n := by
  unfold nmV
  have h := beN_lt (tkN l off st n true).1
  rcases tkN_len l off st n true with q | q
  · rw [q]; exact Nat.pow_pos (by decide)
  · rw [q] at h; exact h

theorem nmS_le (l : List UInt8) (off : Nat) (st : RSt) (n : Int) (h : st.1 ≤ l.length) : (nmS l off st n).1 ≤ l.length := tkN_le l off st n true h

theorem numK_t {g : Nat} {s : ByteArray} {off : Nat} (st : RSt) (n : Nat) (hn : n ≤ 7) (w : World) (h : RdT w g s off st) (hp : st.1 ≤ s.size) (hb : off + s.size ≤ 281474976710656) :
    Calls Tryd.prog 44 #[.pointer (some ⟨g, 0, none⟩), .int .i64 n] w fun e w' => e = .returned (.int .i64 (nmV s.data.toList off st n : Nat)) ∧
      RdT w' g s off (nmS s.data.toList off st n) ∧ w.grownBy w' (some g) := by
  have h1 := num_t st n w h hp hb
  have hl := nmV_lt s.data.toList off st n
  have h3 : 256 ^ n ≤ 256 ^ 7 := Nat.pow_le_pow_right (by decide) hn
  have e : wrap64 (beN (tkN s.data.toList off st n true).1) = ((nmV s.data.toList off st n : Nat) : Int) := by
    show wrap64 ((nmV s.data.toList off st n : Nat) : Int) = _
    unfold wrap64
    omega
  rw [e] at h1
  exact h1

theorem nm_go (l : List UInt8) (st : RSt) (n : Nat) (h1 : 1 ≤ n) (h8 : n ≤ 8) (h : st.2.1 = 0) (hn : st.1 + n ≤ l.length) : nmS l 0 st n = (st.1 + n, st.2) ∧ nmV l 0 st n = beN ((l.drop st.1).take n) := by
  have e := tkN_go l 0 st n true h hn (by intro _; omega)
  unfold nmS nmV
  rw [e]
  exact ⟨rfl, rfl⟩

theorem nm_miss (l : List UInt8) (st : RSt) (n : Nat) (h1 : 1 ≤ n) (h8 : n ≤ 8) (h : st.2.1 = 0) (hn : ¬ st.1 + n ≤ l.length) (hp : st.1 ≤ l.length) : nmS l 0 st n = (st.1, 7, (st.1 : Int)) := by
  have e := tkN_miss l 0 st n true h hn hp (by intro _; omega)
  unfold nmS
  rw [e]
  simp

theorem nm_bad (l : List UInt8) (st : RSt) (n : Int) (h : ¬ st.2.1 = 0) : nmS l 0 st n = st := by
  unfold nmS
  rw [tkN_bad l 0 st n true h]

theorem atT {g : Nat} {s : ByteArray} {off : Nat} (st : RSt) (w : World) (h : RdT w g s off st) :
    Calls Tryd.prog 77 #[.pointer (some ⟨g, 0, none⟩)] w fun e w' => e = .returned (.int .i64 ((off : Int) + (st.1 : Int))) ∧ w = w' := by
  obtain ⟨f, hr, hf⟩ := h
  exact at_any w hr

theorem errT_none {g : Nat} {s : ByteArray} {off : Nat} (st : RSt) (w : World) (h : RdT w g s off st) (he : st.2.1 = 0) :
    Calls Tryd.prog 47 #[.pointer (some ⟨g, 0, none⟩)] w fun r w' => r = .returned .nilIface ∧ w = w' := by
  obtain ⟨f, hr, hf⟩ := h
  rcases hf with ⟨h0, rfl⟩ | ⟨h0, q, rfl, hq⟩
  · exact err_none w hr
  · exact absurd he h0



/-- How far a reader is; whether it has noted something. -/
def rdPos (w : World) (g : Nat) : Nat := match w.cell? ⟨g, 1, none⟩ with | some (.int _ n) => n.toNat | _ => 0

def rdNote (w : World) (g : Nat) : Bool := match w.cell? ⟨g, 2, none⟩ with | some (.pointer (some _)) => true | _ => false

def rdLeft (n : Nat) (w : World) (g : Nat) : Nat := if rdNote w g = true then 0 else n + 1 - rdPos w g

theorem rdLeft_ok {n g p : Nat} {x : Int} {s : ByteArray} {w : World} (h : RdT w g s 0 (p, 0, x)) : rdLeft n w g = n + 1 - p := by
  obtain ⟨f, hr, hf⟩ := h
  rcases hf with ⟨_, rfl⟩ | ⟨h0, _⟩
  · have e1 : rdNote w g = false := by unfold rdNote; rw [hr.c2]
    have e2 : rdPos w g = p := by
      unfold rdPos
      rw [hr.c1]
      show (((0 : Nat) : Int) + ((p : Nat) : Int)).toNat = p
      omega
    unfold rdLeft
    rw [e1, e2]
    rfl
  · exact absurd rfl h0

theorem rdLeft_bad {n g p : Nat} {e x : Int} {s : ByteArray} {w : World} (h : RdT w g s 0 (p, e, x)) (he : e ≠ 0) : rdLeft n w g = 0 := by
  obtain ⟨f, hr, hf⟩ := h
  rcases hf with ⟨h0, _⟩ | ⟨_, q, rfl, _⟩
  · exact absurd h0 he
  · have e1 : rdNote w g = true := by unfold rdNote; rw [hr.c2]
    unfold rdLeft
    rw [if_pos e1]

end Go.Proofs.YtdjljnpbnhampaaDoor
