/- Addresses that lie in memory; Parse of a text that is an address's. -/
import Derived.Test.YtceiiolpggolbaaDoorMacParse
namespace Go.Proofs.YtceiiolpggolbaaDoor
open Go.RowKit

theorem below_then {w w1 w2 : World} (h : Below w.heap.size w w1) (k : Below w1.heap.size w1 w2) : Below w.heap.size w w2 := h.trans (k.mono h.size)

/-- An address lies in a block of its own. -/
def HasA (w : World) (B : Nat) (x : Nat → Nat) : Prop := w.heap[B]? = some (.cells (sixC x) 23 (0, 0))

theorem HasA.c {w : World} {B : Nat} {x : Nat → Nat} (h : HasA w B x) (i : Nat) (hi : i < 6) : w.cell? ⟨B, i, none⟩ = some (.int .u8 (x i)) := (Joins.cell_of_block h i).trans (sixC_get _ _ hi)
theorem HasA.lt {w : World} {B : Nat} {x : Nat → Nat} (h : HasA w B x) : B < w.heap.size := World.block_lt_of_cell? w _ (h.c 0 (by omega))
theorem HasA.below {w w' : World} {B C : Nat} {x : Nat → Nat} (h : HasA w B x) (hb : Below C w w') (hC : B < C) : HasA w' B x := (hb.block _ hC).trans h
theorem HasA.drew {w : World} {B : Nat} {x : Nat → Nat} (h : HasA w B x) : HasA w.drew B x := h

/-- The cells of an address, all at once. -/
theorem HasA.all {w : World} {B : Nat} {x : Nat → Nat} (h : HasA w B x) : w.cell? ⟨B, 0, none⟩ = some (.int .u8 (x 0)) ∧ w.cell? ⟨B, 1, none⟩ = some (.int .u8 (x 1)) ∧ w.cell? ⟨B, 2, none⟩ = some (.int .u8 (x 2)) ∧ w.cell? ⟨B, 3, none⟩ = some (.int .u8 (x 3)) ∧ w.cell? ⟨B, 4, none⟩ = some (.int .u8 (x 4)) ∧ w.cell? ⟨B, 5, none⟩ = some (.int .u8 (x 5)) :=
  ⟨h.c 0 (by omega), h.c 1 (by omega), h.c 2 (by omega), h.c 3 (by omega), h.c 4 (by omega), h.c 5 (by omega)⟩

theorem addrV_six {a b : Nat → Nat} (h : six a = six b) : addrV a = addrV b := by
  simp only [six, List.cons.injEq, and_true] at h
  obtain ⟨h0, h1, h2, h3, h4, h5⟩ := h
  simp [addrV, h0, h1, h2, h3, h4, h5]

/- Parse of a text that is an address. -/
set_option maxRecDepth 100000 in
theorem parse_text (b : Nat → Nat) (hb : ∀ i, b i < 256) (w : World) :
    Calls Tryd.prog 57 #[.string ⟨(addrL b).toArray⟩] w fun e w' => e = .returned (.tuple #[addrV b, .nilIface]) ∧ Below w.heap.size w w' := by
  refine (parse_any _ w).mono fun e w' h => ⟨?_, h.2⟩
  rcases h.1 with ⟨a, ha, hl, he⟩ | ⟨hno, _⟩
  · rw [he, addrV_six (addrL_inj ha hb hl)]
  · exact absurd rfl (hno b hb)


end Go.Proofs.YtceiiolpggolbaaDoor
