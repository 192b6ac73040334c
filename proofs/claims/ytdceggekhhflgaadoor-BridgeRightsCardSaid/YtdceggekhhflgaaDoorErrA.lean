/- switchyardlaw.placed: an error that is this one, at this place. (apart: ErrAs, ErrAs.below, ErrAs.nil) -/
import Derived.Test.YtdceggekhhflgaaDoorFlt
import Derived.Test.YtdceggekhhflgaaDoorBlk
namespace Go.Proofs.YtdceggekhhflgaaDoor
open Go.RowKit
set_option linter.unusedVariables false

/-- What a reader's error says: nothing (0, -1), or an At. -/
def ErrAs (w : World) (er : Value) (e pl : Int) : Prop := (er = .nilIface ∧ e = 0 ∧ pl = -1) ∨ (e ≠ 0 ∧ ∃ q, er = .iface 57 (.pointer (some ⟨q, 0, none⟩)) ∧ Flt w q e pl)

theorem ErrAs.below {w w' : World} {er : Value} {e pl : Int} (h : ErrAs w er e pl) (hb : Below w.heap.size w w') : ErrAs w' er e pl := by
  rcases h with h | ⟨he, q, hq, hf⟩
  · exact Or.inl h
  · exact Or.inr ⟨he, q, hq, hf.below hb⟩

theorem ErrAs.nil {w : World} : ErrAs w .nilIface 0 (-1) := Or.inl ⟨rfl, rfl, rfl⟩

/-- A reader's answer: a value, and its error. -/
def ReadsAs (X : Array Value) (e pl : Int) (w : World) (r : Ending) (w' : World) : Prop := ∃ er, r = .returned (.tuple #[.agg X, er]) ∧ ErrAs w' er e pl ∧ Below w.heap.size w w'


end Go.Proofs.YtdceggekhhflgaaDoor
