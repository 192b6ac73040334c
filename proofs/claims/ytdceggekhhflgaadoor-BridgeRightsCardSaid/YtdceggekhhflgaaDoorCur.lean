/- The reference's cursor: what is thrown, eaten, counted, asked for. -/
import Derived.Test.YtdceggekhhflgaaDoorRdT
import Derived.Test.YtdceggekhhflgaaDoorCopyT
import Derived.Lib.BufferWrite
import Derived.BigRegion
namespace Go.Proofs.YtdceggekhhflgaaDoor
open Go.RowKit
attribute [local go_sem ↓] Go.wp_at_zero Go.wp_at_succ
set_option linter.unusedSimpArgs false
set_option linter.unusedVariables false
set_option maxRecDepth 100000

















theorem grownC (w : World) (c i : Nat) (v : Value) : w.grownBy (w.setCell ⟨c, i, none⟩ v) (some c) :=
  ⟨rfl, rfl, rfl, by simp [World.setCell], fun k _ hne => Below.heap_setCell _ _ _ _ (by intro e; exact hne (by rw [e]))⟩

theorem cutT (s : ByteArray) (p n : Nat) : s.extract p (p + n) = ⟨((s.data.toList.drop p).take n).toArray⟩ := by
  apply ByteArray.ext
  apply Array.toList_inj.1
  rw [extract_list]
  simp















theorem Tryd.addrZero : (Tryd.prog.info? 120).map (·.zero) = some (some (.agg (c6 z6))) := by kernel_rfl





def curAt (w : World) (c : Nat) : Nat := match w.cell? ⟨c, 1, none⟩ with | some (.int _ n) => n.toNat | _ => 0




end Go.Proofs.YtdceggekhhflgaaDoor
