/- Spans that lie in a row. -/
import Derived.Test.YtlfeholphngilaaDoorCells
import Derived.Test.YtlfeholphngilaaDoorSpanM
namespace Go.Proofs.YtlfeholphngilaaDoor
open Go.RowKit
set_option linter.unusedVariables false
set_option maxRecDepth 100000

def spC (x : Sp) : Array Value := #[.int .i64 x.f, .int .i64 x.t, .int .i64 x.i]
def bySp (x : Sp) : Prop := ((Lit.int .i64 x.f).wf = true ∧ (Lit.int .i64 x.t).wf = true) ∧ (Lit.int .i64 x.i).wf = true
def SpAt (w : World) (b o : Nat) (l : List Sp) : Prop := ∀ j (hj : j < l.length), CellsAt w b (o + j * 3) (spC l[j])
def SpIn (w : World) (a : Option Addr) (l : List Sp) : Prop := l = [] ∨ ∃ b o, a = some ⟨b, o, none⟩ ∧ b < w.heap.size ∧ SpAt w b o l
theorem SpAt.below {w w' : World} {b o D : Nat} {l : List Sp} (h : SpAt w b o l) (hb : Below D w w') (hB : b < D) : SpAt w' b o l := fun j hj => (h j hj).below hb hB
theorem SpIn.below {w w' : World} {a : Option Addr} {l : List Sp} (h : SpIn w a l) (hb : Below w.heap.size w w') : SpIn w' a l := by
  rcases h with h | ⟨b, o, h1, h2, h3⟩
  · exact Or.inl h
  · exact Or.inr ⟨b, o, h1, Nat.lt_of_lt_of_le h2 hb.size, fun j hj => (h3 j hj).below hb h2⟩
theorem SpIn.at {w : World} {a : Option Addr} {l : List Sp} (h : SpIn w a l) {k : Nat} (hk : k < l.length) : ∃ b o, a = some ⟨b, o, none⟩ ∧ b < w.heap.size ∧ SpAt w b o l := by
  rcases h with rfl | h
  · simp at hk
  · exact h
theorem Tryd.spZero : (Tryd.prog.info? 42).map (·.zero) = some (some (.agg (spC zSp))) := by kernel_rfl

end Go.Proofs.YtlfeholphngilaaDoor
