/- arp.Read: messages laid byte by byte. -/
import Derived.Test.YtjoepmfineinfaaDoorBlk
import Derived.Test.YtjoepmfineinfaaDoorArSpec
import Derived.Test.YtjoepmfineinfaaDoorLeadT
namespace Go.Proofs.YtjoepmfineinfaaDoor
open Go.RowKit
attribute [local go_sem ↓] Go.wp_at_zero Go.wp_at_succ
set_option linter.unusedSimpArgs false
set_option linter.unusedVariables false
set_option maxRecDepth 100000

def arRes (l : List UInt8) : Ar := if (ar9 l).1 then arOf l else zAr

def arE (l : List UInt8) : Int := (ar9 l).2.2.1

def arP (l : List UInt8) : Int := (ar9 l).2.2.2

theorem byX_nil : byX [] = z6 := by
  funext i
  simp [byX, z6]

theorem arCopy_sha (op : Int) (a b c d : Nat → Nat) (l : List UInt8) (h : l = [] ∨ l.length = 6) : ((arC ⟨op, z6, b, c, d⟩).toList.take 1 ++ Lib.byteCells (⟨l.toArray⟩ : ByteArray).data.toList ++ (arC ⟨op, z6, b, c, d⟩).toList.drop (1 + (⟨l.toArray⟩ : ByteArray).size)).toArray = arC ⟨op, byX l, b, c, d⟩ := by
  rcases h with rfl | h
  · rw [byX_nil]; rfl
  · match l, h with
    | [x0, x1, x2, x3, x4, x5], _ => rfl

theorem arCopy_tha (op : Int) (a b c d : Nat → Nat) (l : List UInt8) (h : l = [] ∨ l.length = 6) : ((arC ⟨op, a, z6, c, d⟩).toList.take 7 ++ Lib.byteCells (⟨l.toArray⟩ : ByteArray).data.toList ++ (arC ⟨op, a, z6, c, d⟩).toList.drop (7 + (⟨l.toArray⟩ : ByteArray).size)).toArray = arC ⟨op, a, byX l, c, d⟩ := by
  rcases h with rfl | h
  · rw [byX_nil]; rfl
  · match l, h with
    | [x0, x1, x2, x3, x4, x5], _ => rfl

theorem arCopy_spa (op : Int) (a b c d : Nat → Nat) (l : List UInt8) (h : l = [] ∨ l.length = 4) : ((arC ⟨op, a, b, z6, d⟩).toList.take 13 ++ Lib.byteCells (⟨l.toArray⟩ : ByteArray).data.toList ++ (arC ⟨op, a, b, z6, d⟩).toList.drop (13 + (⟨l.toArray⟩ : ByteArray).size)).toArray = arC ⟨op, a, b, byX l, d⟩ := by
  rcases h with rfl | h
  · rw [byX_nil]; rfl
  · match l, h with
    | [x0, x1, x2, x3], _ => rfl

theorem arCopy_tpa (op : Int) (a b c d : Nat → Nat) (l : List UInt8) (h : l = [] ∨ l.length = 4) : ((arC ⟨op, a, b, c, z6⟩).toList.take 17 ++ Lib.byteCells (⟨l.toArray⟩ : ByteArray).data.toList ++ (arC ⟨op, a, b, c, z6⟩).toList.drop (17 + (⟨l.toArray⟩ : ByteArray).size)).toArray = arC ⟨op, a, b, c, byX l⟩ := by
  rcases h with rfl | h
  · rw [byX_nil]; rfl
  · match l, h with
    | [x0, x1, x2, x3], _ => rfl

theorem grown_belowA {B g : Nat} {a w w' : World} (h : Below B a w) (hg : w.grownBy w' (some g)) (hB : B ≤ w.heap.size) (hr : B ≤ g) : Below B a w' :=
  h.grown hg hB fun k e => by cases e; exact hr

end Go.Proofs.YtjoepmfineinfaaDoor
