/- A great value is put into a block of its own: what follows sees the block alone. -/
import Derived.Test.YtnlphldkdglofaaBlk
import Derived.Great.Ranges
namespace Go.Proofs.Ytnlphldkdglofaa
open Go.RowKit
set_option linter.unusedVariables false

theorem box_blk {P : Program} {ops : Array Oper} {rest : List Oper} {o : Oper} {a : Act} {w : World} {Q : Exit → Act → World → Prop} {x : Operand} (t : TypeId) (X : Array Value) (hg : o.guard = none) (ho : o.op = .box t x) (hx : a.eval x = .agg X)
    (h : ∀ w', Blk w' w.heap.size t X → Below w.heap.size w w' → wpList P ops Q rest (a.put o.dst (.pointer (some ⟨w.heap.size, 0, none⟩))) w') : wpList P ops Q (o :: rest) a w :=
  Go.Great.wpList_boxTo hg t x ho _ rfl _ rfl X (by rw [hx]; rfl) (h _ (Blk.new w t X) ((Below.refl _ _).alloc (Nat.le_refl _) _))

end Go.Proofs.Ytnlphldkdglofaa
