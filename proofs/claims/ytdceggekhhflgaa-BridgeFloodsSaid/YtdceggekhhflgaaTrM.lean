/- Trips, plainly. -/
import Derived.Test.YtdceggekhhflgaaSchM
import Derived.Test.YtdceggekhhflgaaBrI
import Derived.Test.YtdceggekhhflgaaMacRes
namespace Go.Proofs.Ytdceggekhhflgaa
open Go.RowKit
attribute [local go_sem ↓] Go.wp_at_zero Go.wp_at_succ
set_option linter.unusedSimpArgs false
set_option linter.unusedVariables false
set_option maxRecDepth 100000

structure Tr where
  port : Int
  frm : Int
  to : Int
  vid : Int
  after : Int
  many : Bool

instance : Inhabited Tr := ⟨⟨0, 0, 0, 0, 0, false⟩⟩

def zTr : Tr := ⟨0, 0, 0, 0, 0, false⟩

def trC (x : Tr) : Array Value := #[.int .i64 x.port, .int .i64 x.frm, .int .i64 x.to, .int .i64 x.vid, .int .i64 x.after, .bool x.many]

def TrAt (w : World) (b o : Nat) (l : List Tr) : Prop := ∀ j (hj : j < l.length), CellsAt w b (o + j * 6) (trC l[j])

def TrIn (w : World) (a : Option Addr) (l : List Tr) : Prop := l = [] ∨ ∃ b o, a = some ⟨b, o, none⟩ ∧ b < w.heap.size ∧ TrAt w b o l

theorem TrAt.below {w w' : World} {b o D : Nat} {l : List Tr} (h : TrAt w b o l) (hb : Below D w w') (hB : b < D) : TrAt w' b o l := fun j hj => (h j hj).below hb hB

theorem TrIn.below {w w' : World} {a : Option Addr} {l : List Tr} (h : TrIn w a l) (hb : Below w.heap.size w w') : TrIn w' a l := by
  rcases h with h | ⟨b, o, h1, h2, h3⟩
  · exact Or.inl h
  · exact Or.inr ⟨b, o, h1, Nat.lt_of_lt_of_le h2 hb.size, fun j hj => (h3 j hj).below hb h2⟩

theorem TrIn.drew {w : World} {a : Option Addr} {l : List Tr} (h : TrIn w a l) : TrIn w.drew a l := h

theorem TrIn.at {w : World} {a : Option Addr} {l : List Tr} (h : TrIn w a l) {k : Nat} (hk : k < l.length) : ∃ b o, a = some ⟨b, o, none⟩ ∧ b < w.heap.size ∧ TrAt w b o l := by
  rcases h with rfl | h
  · simp at hk
  · exact h

/-- A list that lay somewhere ahead lies there still. -/
theorem TrIn.late {w0 w w' : World} {a : Option Addr} {l : List Tr} (h : TrIn w a l) (h0 : TrIn w0 a l) (hb : Below w0.heap.size w w') : TrIn w' a l := by
  rcases h with h | ⟨b, o, e1, e2, e3⟩
  · exact Or.inl h
  · rcases h0 with h0 | ⟨b0, o0, f1, f2, f3⟩
    · exact Or.inl h0
    · rw [e1] at f1
      cases f1
      exact Or.inr ⟨b, o, e1, Nat.lt_of_lt_of_le e2 hb.size, e3.below hb f2⟩

theorem Try.trZero : (Try.prog.info? 24).map (·.zero) = some (some (.agg (trC zTr))) := by kernel_rfl

/-- A trip's frame: its destination, its tags. -/
def dstF (t : Tr) : Nat → Nat := fun i => if t.many = true ∧ i = 0 then 3 else adF t.to i

def tagM (t : Tr) : List Tg := if 0 < pickN t.vid 4 then [⟨false, 3, false, (pickN t.vid 4 : Int) - 1⟩] else []

def carF (t : Tr) (ta : Option Addr) (tc : Nat) : Fr := ⟨dstF t, adF t.frm, ta, tagM t, tc, 1, 2048, 0, 0, 0, 0, 0, ⟨#[98, 111, 100, 121]⟩⟩

theorem dstF_lt (t : Tr) : ∀ i, dstF t i < 256 := by
  intro i
  unfold dstF
  split
  · decide
  · exact adF_lt _ i

theorem tagM_short (t : Tr) : (tagM t).length ≤ 1 := by
  unfold tagM
  split <;> simp

theorem carF_right (t : Tr) (ta : Option Addr) (tc : Nat) : rightB (carF t ta tc) = true := by
  have h := pickN_lt t.vid 4 (by decide)
  have hp : pickN t.vid 4 = 0 ∨ pickN t.vid 4 = 1 ∨ pickN t.vid 4 = 2 ∨ pickN t.vid 4 = 3 := by omega
  unfold rightB carF tagM
  rcases hp with e | e | e | e <;> rw [e] <;> rfl

theorem carF_grp (t : Tr) (ta : Option Addr) (tc : Nat) : grpB (carF t ta tc).s = false := by
  unfold grpB
  exact decide_eq_false (adF_even t.frm)

end Go.Proofs.Ytdceggekhhflgaa
