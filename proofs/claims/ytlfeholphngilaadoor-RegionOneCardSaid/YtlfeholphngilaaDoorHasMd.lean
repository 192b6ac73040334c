/- Package md5's tables lie in memory. -/
import Derived.Test.YtlfeholphngilaaDoorProg
import Derived.Test.YtlfeholphngilaaDoorMd5Q
import Derived.Test.YtlfeholphngilaaDoorTab2
import Derived.WalkKit
import Derived.WalkLawsBesides
import Derived.Lib.Hide
namespace Go.Proofs.YtlfeholphngilaaDoor
open Go.RowKit
set_option linter.unusedVariables false

theorem Tryd.gSines : Tryd.prog.globalNamed "switchyard/md5.sines" = some 1 := by kernel_rfl
theorem Tryd.gTurns : Tryd.prog.globalNamed "switchyard/md5.turns" = some 0 := by kernel_rfl
def sinI : List Int := sinL.map fun (x : Nat) => (x : Int)
def turnI : List (List Int) := [[7, 12, 17, 22], [5, 9, 14, 20], [4, 11, 16, 23], [6, 10, 15, 21]]

/-- The two tables. -/
def HasMd (w : World) : Prop := (∀ j : Nat, j < 64 → w.cell? ⟨1, j, none⟩ = some (.int .u32 (sinN j : Nat))) ∧ (∀ j : Nat, j < 64 → w.cell? ⟨0, j / 16 * 4 + j % 4, none⟩ = some (.int .i64 (turnN j : Nat)))
theorem cell_below {w w' : World} {B k D : Nat} {v : Value} (h : w.cell? ⟨B, k, none⟩ = some v) (hb : Below D w w') (hB : B < D) : w'.cell? ⟨B, k, none⟩ = some v := by
  have hk : w'.heap[B]? = w.heap[B]? := hb.block B hB
  unfold World.cell? at h ⊢
  simp only at h ⊢
  rw [hk]
  exact h
theorem HasMd.below {w w' : World} (h : HasMd w) (hb : Below w.heap.size w w') : HasMd w' :=
  ⟨fun j hj => cell_below (h.1 j hj) hb (World.block_lt_of_cell? w _ (h.1 j hj)), fun j hj => cell_below (h.2 j hj) hb (World.block_lt_of_cell? w _ (h.2 j hj))⟩
theorem HasMd.drew {w : World} (h : HasMd w) : HasMd w.drew := h

theorem sinI_at (j : Nat) (h : j < 64) : sinI.getD j 0 = (sinN j : Nat) := by
  have hl : j < sinL.length := h
  unfold sinI sinN
  rw [List.getD_eq_getElem?_getD, List.getElem?_map, List.getElem?_eq_getElem hl, List.getD_eq_getElem?_getD, List.getElem?_eq_getElem hl]
  rfl
theorem turnI_at : ∀ j : Nat, j < 64 → (turnI[j / 16]?.bind fun r => r[j % 4]?) = some ((turnN j : Nat) : Int) := by decide

end Go.Proofs.YtlfeholphngilaaDoor
