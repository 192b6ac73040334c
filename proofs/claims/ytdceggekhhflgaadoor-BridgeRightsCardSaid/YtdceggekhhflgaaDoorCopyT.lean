/- The reference's cursor: what is thrown, eaten, counted, asked for. (apart: wp_copy_text, byX, byX_lt) -/
import Derived.Test.YtdceggekhhflgaaDoorBy
import Derived.Lib.BufferWrite
import Derived.BigRegion
namespace Go.Proofs.YtdceggekhhflgaaDoor
open Go.RowKit
attribute [local go_sem ↓] Go.wp_at_zero Go.wp_at_succ
set_option linter.unusedSimpArgs false
set_option linter.unusedVariables false
set_option maxRecDepth 100000

/-- A text is copied into a part of a block, at a step of a region that draws its order. -/
theorem wp_copy_text {P : Program} {o : Oper} {a : Act} {w : World} {K : Act → World → Prop} {Q : Exit → Act → World → Prop} {d x : Operand} {dT sT : TypeId} {B k dLen dCap : Nat} {T : TypeId} {C : Array Value} (t : ByteArray) (C' : Array Value) (elem : TypeId)
    (hop : o.op = Op.call { callee := Callee.builtin Builtin.copy, args := #[d, x], argTypes := #[dT, sT] }) (hd : a.eval d = .slice (some ⟨B, k, none⟩) dLen dCap) (hx : a.eval x = .string t) (hB : Blk w B T C)
    (hu : P.underlying dT = some (.slice elem)) (hs : (P.info? elem).map (·.size) = some 1) (hle : t.size ≤ dLen) (hfit : k + t.size ≤ C.size) (hC : (C.toList.take k ++ Lib.byteCells t.data.toList ++ C.toList.drop (k + t.size)).toArray = C')
    (hK : ∀ w', Blk w' B T C' → Below B w w' → w.grownBy w' (some B) → K (a.put o.dst (goInt t.size)) w') : Oper.wp P o a w K Q := by
  have hrun := Lib.run_copy_row_string (P := P) w dT sT o.type elem B k dLen dCap t C T hu hs hB hle hfit
  rw [hC] at hrun
  have hFr := hB.setRow C'
  have hbl : Below B w (w.setRow B C') := below_setRow (Below.refl _ _) (Nat.le_refl _) _
  have hgr : w.grownBy (w.setRow B C') (some B) := ⟨rfl, rfl, rfl, by simp, fun j _ hj => setRow_other w B j C' (by intro e; subst e; exact hj rfl)⟩
  unfold Oper.wp
  simp [execOp, hop, resolve, invoke, builtin, hd, hx, hrun, Result.andThen]
  exact hK _ hFr hbl hgr

/-- Bytes of a list, by number. -/
def byX (l : List UInt8) : Nat → Nat := fun i => (l.getD i 0).toNat

theorem byX_lt (l : List UInt8) (i : Nat) : byX l i < 256 := (l.getD i 0).toNat_lt

theorem byX_c6 (l : List UInt8) (h : l.length = 6) : Lib.byteCells l = (c6 (byX l)).toList := by
  match l, h with
  | [a, b, c, d, e, f], _ => rfl

theorem byX_c4 (l : List UInt8) (h : l.length = 4) : Lib.byteCells l = (c4 (byX l)).toList := by
  match l, h with
  | [a, b, c, d], _ => rfl


end Go.Proofs.YtdceggekhhflgaaDoor
