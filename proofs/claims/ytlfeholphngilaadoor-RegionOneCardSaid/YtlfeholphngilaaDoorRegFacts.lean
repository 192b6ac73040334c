/- switchyardkeep.regional: plain facts. -/
import Derived.Test.YtlfeholphngilaaDoorSpLeast
import Derived.Test.YtlfeholphngilaaDoorSpDigest
import Derived.Test.YtlfeholphngilaaDoorSpSame
import Derived.Test.YtlfeholphngilaaDoorMd5Z
import Derived.Great.BuildSlice
namespace Go.Proofs.YtlfeholphngilaaDoor
open Go.RowKit
attribute [local go_sem ↓] Go.wp_at_zero Go.wp_at_succ
set_option linter.unusedSimpArgs false
set_option linter.unusedVariables false
set_option maxRecDepth 100000

theorem spAt_blk {w : World} {B : Nat} {l : List Sp} (h : Blk w B 42 (spL l).toArray) : SpAt w B 0 l := by
  intro j hj k c hc
  have hk : k < 3 := (Array.getElem?_eq_some_iff.1 hc).1
  have h2 := spL_get l j hj k hk
  rw [hc] at h2
  rw [Nat.zero_add, h.c (j * 3 + k)]
  simpa using h2
theorem buildSlice_g {P : Program} {ops : Array Oper} {rest : List Oper} {o : Oper} {a : Act} {w : World} {Q : Exit → Act → World → Prop} (hw : Region.wanted o (yielded ops a.tmps) = true) (t e : TypeId) (len : Nat) (parts : Array (Nat × Operand)) (ho : o.op = .buildSlice t len parts)
    (cells : Array Value) (ie : TypeInfo) (z : Value)
    (hu : P.underlying t = some (.slice e)) (hie : P.info? e = some ie) (hz : ie.zero = some z) (hsmall : ¬ len * ie.size > 2 ^ 24) (hpos : ¬ len * ie.size = 0)
    (hf : Instr.fill (fun i => some (i * ie.size, ie.size)) ((Array.range (len * ie.size)).map (z.cells[· % z.cells.size]!)) (parts.map fun (i, x) => (i, a.eval x)).toList = some cells)
    (h : wpList P ops Q rest (a.put o.dst (.slice (some ⟨w.heap.size, 0, none⟩) len len)) (w.alloc (.cells cells e))) : wpList P ops Q (o :: rest) a w :=
  wpList_step fun K hK => by
    rw [if_pos hw]
    exact wp_buildSlice t e len parts ho cells ie z hu hie hz hsmall hpos hf (hK _ _ h)
theorem spIn_blk {w : World} {B : Nat} {l : List Sp} (h : Blk w B 42 (spL l).toArray) : SpIn w (some ⟨B, 0, none⟩) l := Or.inr ⟨B, 0, rfl, h.lt, spAt_blk h⟩
def rl3 : List Sp := [⟨1, 5, 2⟩, ⟨6, 9, 2⟩, ⟨20, 20, 0⟩]
def rl1 : List Sp := [⟨1, 9, 2⟩]
theorem rl3_right : rightL rl3 = true := by decide
theorem rl3_least : leastL rl3 = rl1 := rfl
theorem rl0_right : rightL [] = true := rfl
theorem fill_three : Instr.fill (fun i => some (i * 3, 3)) ((Array.range (3 * 3)).map ((Value.agg (spC zSp)).cells[· % (Value.agg (spC zSp)).cells.size]!)) [(0, .agg (spC ⟨1, 5, 2⟩)), (1, .agg (spC ⟨6, 9, 2⟩)), (2, .agg (spC ⟨20, 20, 0⟩))] = some (spL rl3).toArray := by kernel_rfl
theorem fill_nine : Instr.fill (fun i => some (i * 3, 3)) ((Array.range (1 * 3)).map ((Value.agg (spC zSp)).cells[· % (Value.agg (spC zSp)).cells.size]!)) [(0, .agg (spC ⟨1, 9, 2⟩))] = some (spL rl1).toArray := by kernel_rfl
theorem empty_mark : hmacL mstKey (tabB []) = [172, 54, 23, 127, 80, 40, 60, 212, 184, 56, 33, 216, 171, 38, 222, 98] := by rw [tabB_nil, hmac_empty]


end Go.Proofs.YtlfeholphngilaaDoor
