/- The library's table of powers lies in memory; strconv.Itoa at every int64. -/
import Derived.Test.YtceiiolpggolbaaDoorShelf
import Derived.WalkKit
import Derived.WalkSmall
import Derived.Lib.ItoaLen
namespace Go.Proofs.YtceiiolpggolbaaDoor
open Go.RowKit Go.Sort

theorem Tryd.gPow : Tryd.prog.globalNamed "internal/strconv.uint64pow10" = some 4 := by kernel_rfl

/-- The library's table of powers lies in memory. -/
def HasTab (w : World) : Prop := Lib.TabIs Tryd.prog w "internal/strconv.uint64pow10" .u64 Lib.pow10Tab

theorem HasTab.lt {w : World} (h : HasTab w) : 4 < w.heap.size := by
  have := h.cell Tryd.gPow 0 (by decide)
  exact World.block_lt_of_cell? w _ this

theorem HasTab.below {w w' : World} (h : HasTab w) (hb : Below w.heap.size w w') : HasTab w' := var?_below hb Tryd.gPow h.lt h

theorem below_grow (w : World) (k : Nat) (os : Array Obj) : Below w.heap.size w (grow (w.drewN k) os) := by
  refine ⟨rfl, by simp [grow], rfl, by simp [grow], fun i hi => ?_⟩
  show ((w.drewN k).heap ++ os)[i]? = _
  rw [Array.getElem?_append_left (by simpa using hi)]
  simp

theorem itoa_any (n : Int) (w : World) (h : HasTab w) (h0 : -9223372036854775808 ≤ n) (h1 : n ≤ 9223372036854775807) :
    Calls Tryd.prog 50 #[.int .i64 n] w fun e w' => e = .returned (.string ⟨(Lib.itoa n).toArray⟩) ∧ Below w.heap.size w w' :=
  (Tryd.strconv_Itoa n h0 h1 w h).mono (by rintro e w' ⟨rfl, k, os, rfl⟩; exact ⟨rfl, below_grow w k os⟩)

end Go.Proofs.YtceiiolpggolbaaDoor
