/- Lessons in memory. -/
import Derived.Test.YtgeiiengieonfaaDoorSchM
import Derived.Test.YtgeiiengieonfaaDoorCells
namespace Go.Proofs.YtgeiiengieonfaaDoor
open Go.RowKit
attribute [local go_sem ↓] Go.wp_at_zero Go.wp_at_succ
set_option linter.unusedSimpArgs false
set_option linter.unusedVariables false
set_option maxRecDepth 100000

def leC (x : Le) : Array Value := #[.int .i64 x.vid, .int .i64 x.addr, .int .i64 x.port, .int .i64 x.after]

def LeAt (w : World) (b o : Nat) (l : List Le) : Prop := ∀ j (hj : j < l.length), CellsAt w b (o + j * 4) (leC l[j])

def LeIn (w : World) (a : Option Addr) (l : List Le) : Prop := l = [] ∨ ∃ b o, a = some ⟨b, o, none⟩ ∧ b < w.heap.size ∧ LeAt w b o l

theorem LeAt.below {w w' : World} {b o D : Nat} {l : List Le} (h : LeAt w b o l) (hb : Below D w w') (hB : b < D) : LeAt w' b o l := fun j hj => (h j hj).below hb hB

theorem LeIn.below {w w' : World} {a : Option Addr} {l : List Le} (h : LeIn w a l) (hb : Below w.heap.size w w') : LeIn w' a l := by
  rcases h with h | ⟨b, o, h1, h2, h3⟩
  · exact Or.inl h
  · exact Or.inr ⟨b, o, h1, Nat.lt_of_lt_of_le h2 hb.size, fun j hj => (h3 j hj).below hb h2⟩

theorem LeIn.drew {w : World} {a : Option Addr} {l : List Le} (h : LeIn w a l) : LeIn w.drew a l := h

theorem LeIn.at {w : World} {a : Option Addr} {l : List Le} (h : LeIn w a l) {k : Nat} (hk : k < l.length) : ∃ b o, a = some ⟨b, o, none⟩ ∧ b < w.heap.size ∧ LeAt w b o l := by
  rcases h with rfl | h
  · simp at hk
  · exact h

/-- A list that lay somewhere ahead lies there still. -/
theorem LeIn.late {w0 w w' : World} {a : Option Addr} {l : List Le} (h : LeIn w a l) (h0 : LeIn w0 a l) (hb : Below w0.heap.size w w') : LeIn w' a l := by
  rcases h with h | ⟨b, o, e1, e2, e3⟩
  · exact Or.inl h
  · rcases h0 with h0 | ⟨b0, o0, f1, f2, f3⟩
    · exact Or.inl h0
    · rw [e1] at f1
      cases f1
      exact Or.inr ⟨b, o, e1, Nat.lt_of_lt_of_le e2 hb.size, e3.below hb f2⟩

theorem Tryd.leZero : (Tryd.prog.info? 53).map (·.zero) = some (some (.agg (leC zLe))) := by kernel_rfl

end Go.Proofs.YtgeiiengieonfaaDoor
