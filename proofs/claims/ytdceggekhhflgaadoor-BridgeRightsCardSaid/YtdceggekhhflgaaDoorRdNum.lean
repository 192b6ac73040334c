/- (*wire.Reader).Num at every argument. -/
import Derived.Test.YtdceggekhhflgaaDoorRd
import Derived.Lib.Hide
namespace Go.Proofs.YtdceggekhhflgaaDoor
open Go.RowKit





/-- The bytes l lie in block b from its head on. -/
def ByteRow (w : World) (b : Nat) (l : List UInt8) : Prop := ∀ k x, l[k]? = some x → w.cell? ⟨b, k, none⟩ = some (.int .u8 (x.toNat : Int))

theorem byteRow_new (W : World) (s : ByteArray) (c : Nat) (E : TypeId) : ByteRow (W.alloc (.cells (bytesRow s c) E ((bytesRow s c).size, (bytesRow s c).size + 1))).drew W.heap.size s.data.toList := by
  intro k x hx
  have e := World.cell?_alloc_mark W (bytesRow s c) E ((bytesRow s c).size, (bytesRow s c).size + 1) k
  refine Eq.trans e ?_
  have hk : k < s.data.size := by
    have := (List.getElem?_eq_some_iff.1 hx).1
    simpa using this
  rw [Array.getElem?_toList] at hx
  rw [bytesRow, Array.getElem?_append_left (by simpa using hk), Array.getElem?_map, hx]
  rfl







end Go.Proofs.YtdceggekhhflgaaDoor
