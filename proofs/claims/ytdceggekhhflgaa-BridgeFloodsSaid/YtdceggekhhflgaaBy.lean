/- Bytes in memory, as texts. -/
import Derived.Test.YtdceggekhhflgaaBlk
import Derived.Test.YtdceggekhhflgaaNum
import Derived.Laws.IdiomStrings
import Derived.WalkLawsBesides
import Derived.BigQuiet
import Derived.Deep.QuietTactic
import Derived.Deep.RegionHeld3
import Derived.Deep.DrawnRows
import Derived.IntWalk
import Derived.Deep.Cut
import Derived.BigGuard
namespace Go.Proofs.Ytdceggekhhflgaa
open Go.RowKit
attribute [local go_sem ↓] Go.wp_at_zero Go.wp_at_succ
set_option linter.unusedSimpArgs false
set_option linter.unusedVariables false
set_option maxRecDepth 100000

/-- The cells of six, and of four bytes. -/
def c6 (x : Nat → Nat) : Array Value := #[.int .u8 (x 0), .int .u8 (x 1), .int .u8 (x 2), .int .u8 (x 3), .int .u8 (x 4), .int .u8 (x 5)]

def c4 (x : Nat → Nat) : Array Value := #[.int .u8 (x 0), .int .u8 (x 1), .int .u8 (x 2), .int .u8 (x 3)]

def z6 : Nat → Nat := fun _ => 0

/-- The first n of them. -/
def nb (n : Nat) (x : Nat → Nat) : List UInt8 := (List.range n).map fun i => UInt8.ofNat (x i)

theorem nb_len (n : Nat) (x : Nat → Nat) : (nb n x).length = n := by simp [nb]





theorem six_of {w : World} {B k : Nat} {T : TypeId} {C : Array Value} {x : Nat → Nat} (h : Blk w B T C) (hC : (C.toList.drop k).take 6 = (c6 x).toList) (j : Nat) (hj : j < 6) : w.cell? ⟨B, k + j, none⟩ = some (.int .u8 (x j)) := by
  rw [h.c (k + j)]
  have e : C[k + j]? = (c6 x).toList[j]? := by rw [← hC, List.getElem?_take_of_lt hj, List.getElem?_drop]; simp
  rw [e]
  have : j = 0 ∨ j = 1 ∨ j = 2 ∨ j = 3 ∨ j = 4 ∨ j = 5 := by omega
  rcases this with rfl | rfl | rfl | rfl | rfl | rfl <;> rfl

theorem four_of {w : World} {B k : Nat} {T : TypeId} {C : Array Value} {x : Nat → Nat} (h : Blk w B T C) (hC : (C.toList.drop k).take 4 = (c4 x).toList) (j : Nat) (hj : j < 4) : w.cell? ⟨B, k + j, none⟩ = some (.int .u8 (x j)) := by
  rw [h.c (k + j)]
  have e : C[k + j]? = (c4 x).toList[j]? := by rw [← hC, List.getElem?_take_of_lt hj, List.getElem?_drop]; simp
  rw [e]
  have : j = 0 ∨ j = 1 ∨ j = 2 ∨ j = 3 := by omega
  rcases this with rfl | rfl | rfl | rfl <;> rfl

def eqN (n : Nat) (x y : Nat → Nat) : Bool := (List.range n).all fun i => ((x i : Int) == (y i : Int))

theorem eqN_refl (n : Nat) (x : Nat → Nat) : eqN n x x = true := by simp [eqN]

theorem Try.u8one : Try.prog.cellsOf 5 = 1 := by kernel_rfl

theorem Try.u8info : ∃ i, Try.prog.info? 5 = some i := Option.isSome_iff_exists.1 (by kernel_rfl)

theorem run_eql_c6 (d : Nat) (x y : Nat → Nat) (w : World) : (Op.equalIn (d + 2) 33 (.agg (c6 x)) (.agg (c6 y))).run Try.prog w = .ok (eqN 6 x y) w := by
  obtain ⟨i, hi⟩ := Try.u8info
  refine run_eql_ints w d 6 33 5 .u8 .u8 i Try.underlying33 Try.underlying5 hi Try.u8one (fun i => (x i : Int)) (fun i => (y i : Int)) _ _ (fun j hj => ?_)
  have : j = 0 ∨ j = 1 ∨ j = 2 ∨ j = 3 ∨ j = 4 ∨ j = 5 := by omega
  rcases this with rfl | rfl | rfl | rfl | rfl | rfl <;> exact ⟨rfl, rfl⟩



end Go.Proofs.Ytdceggekhhflgaa
