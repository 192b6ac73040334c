/- An *api.At in memory. -/
import Derived.Test.YtdceggekhhflgaaDoorProg
import Derived.WalkKit
import Derived.WalkSpells
import Derived.WalkLawsBesides
namespace Go.Proofs.YtdceggekhhflgaaDoor
open Go.RowKit

/-- Block p is an error with a place. -/
def Flt (w : World) (p : Nat) (e at_ : Int) : Prop :=
  w.heap[p]? = some (.cells #[.int .i64 e, .int .i64 at_] 59)

section
variable {w w' : World} {p : Nat} {at_ e : Int}

theorem Flt.lt (h : Flt w p e at_) : p < w.heap.size := (Array.getElem?_eq_some_iff.1 h).1

theorem Flt.c0 (h : Flt w p e at_) : w.cell? ⟨p, 0, none⟩ = some (.int .i64 e) := cell_of_row w p 0 _ _ (0, 0) h

theorem Flt.c1 (h : Flt w p e at_) : w.cell? ⟨p, 1, none⟩ = some (.int .i64 at_) := cell_of_row w p 1 _ _ (0, 0) h

theorem Flt.kept {row : Option Nat} (h : Flt w p e at_) (hg : w.grownBy w' row) (hne : some p ≠ row) : Flt w' p e at_ :=
  (hg.block p h.lt hne).trans h

theorem Flt.below (h : Flt w p e at_) (hb : Below w.heap.size w w') : Flt w' p e at_ := (hb.block p h.lt).trans h

theorem Flt.alloc (h : Flt w p e at_) (o : Obj) : Flt (w.alloc o) p e at_ := h.kept (World.grownBy_alloc w o none) (by simp)
end

end Go.Proofs.YtdceggekhhflgaaDoor
