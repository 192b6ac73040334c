/- Names and vectors as values. -/
import Derived.Test.YtnlphldkdglofaaVecMath
import Derived.Test.YtnlphldkdglofaaBlk
import Derived.Test.YtnlphldkdglofaaBy
namespace Go.Proofs.Ytnlphldkdglofaa
open Go.RowKit
set_option linter.unusedVariables false

/-- The cells of a bridge's name, of a port's, of a vector. -/
def brC (b : Br) : Array Value := #[.int .i64 b.p, .int .i64 b.e, .int .u8 (b.a 0), .int .u8 (b.a 1), .int .u8 (b.a 2), .int .u8 (b.a 3), .int .u8 (b.a 4), .int .u8 (b.a 5)]

def ptC (p n : Int) : Array Value := #[.int .i64 p, .int .i64 n]

def veC (v : Ve) : Array Value := #[.int .i64 v.root.p, .int .i64 v.root.e, .int .u8 (v.root.a 0), .int .u8 (v.root.a 1), .int .u8 (v.root.a 2), .int .u8 (v.root.a 3), .int .u8 (v.root.a 4), .int .u8 (v.root.a 5),
  .int .i64 v.cost, .int .i64 v.sender.p, .int .i64 v.sender.e, .int .u8 (v.sender.a 0), .int .u8 (v.sender.a 1), .int .u8 (v.sender.a 2), .int .u8 (v.sender.a 3), .int .u8 (v.sender.a 4), .int .u8 (v.sender.a 5),
  .int .i64 v.pp, .int .i64 v.pn, .int .i64 v.ap, .int .i64 v.an]

def zBr : Br := ⟨0, 0, z6⟩

def zVe : Ve := ⟨zBr, 0, zBr, 0, 0, 0, 0⟩

/-- The bytes of a vector's addresses are bytes. -/
def byV (v : Ve) : Prop := (∀ i, v.root.a i < 256) ∧ ∀ i, v.sender.a i < 256

theorem br_cells {w : World} {B : Nat} {T : TypeId} {b : Br} (h : Blk w B T (brC b)) : w.cell? ⟨B, 0, none⟩ = some (.int .i64 b.p) ∧ w.cell? ⟨B, 1, none⟩ = some (.int .i64 b.e) ∧ w.cell? ⟨B, 2, none⟩ = some (.int .u8 (b.a 0)) ∧ w.cell? ⟨B, 3, none⟩ = some (.int .u8 (b.a 1)) ∧ w.cell? ⟨B, 4, none⟩ = some (.int .u8 (b.a 2)) ∧ w.cell? ⟨B, 5, none⟩ = some (.int .u8 (b.a 3)) ∧ w.cell? ⟨B, 6, none⟩ = some (.int .u8 (b.a 4)) ∧ w.cell? ⟨B, 7, none⟩ = some (.int .u8 (b.a 5)) :=
  ⟨h.c 0, h.c 1, h.c 2, h.c 3, h.c 4, h.c 5, h.c 6, h.c 7⟩

theorem st_whole (Z : Array Value) (X : Array Value) (h : Z.size = X.size) : (Z.toList.take 0 ++ (Value.agg X).cells.toList ++ Z.toList.drop (0 + (Value.agg X).cells.toList.length)).toArray = X := by
  have : (Value.agg X).cells = X := rfl
  rw [this]
  apply Array.toList_inj.1
  simp [h]

theorem Try.brZero : (Try.prog.info? 37).map (·.zero) = some (some (.agg (brC zBr))) := by kernel_rfl

/-- Two variables made. -/
theorem two_blks (w : World) (T U : TypeId) (C D : Array Value) : Blk ((w.alloc (.cells C T)).alloc (.cells D U)) w.heap.size T C ∧ Blk ((w.alloc (.cells C T)).alloc (.cells D U)) (w.heap.size + 1) U D ∧ Below w.heap.size w ((w.alloc (.cells C T)).alloc (.cells D U)) := by
  have h := Blk.new (w.alloc (.cells C T)) U D
  rw [show (w.alloc (.cells C T)).heap.size = w.heap.size + 1 by simp] at h
  exact ⟨(Blk.new w T C).alloc _, h, ((Below.refl _ _).alloc (Nat.le_refl _) _).alloc (by simp) _⟩

end Go.Proofs.Ytnlphldkdglofaa
