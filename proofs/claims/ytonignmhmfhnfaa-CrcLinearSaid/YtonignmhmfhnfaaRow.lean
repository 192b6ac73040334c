/- A made row of bytes that is filled from its head on: plain cells. -/
import Derived.WalkKit
namespace Go.Proofs.Ytonignmhmfhnfaa
open Go.RowKit

/-- A cell of a row is set. -/
theorem set_row {w : World} {g i : Nat} {v : Value} {c0 c : Array Value} {t : TypeId} (h : w.heap[g]? = some (.cells c0 t (0, 0))) (hc : c0.setIfInBounds i v = c) :
    (w.setCell ⟨g, i, none⟩ v).heap[g]? = some (.cells c t (0, 0)) := by
  rw [← hc]
  show (w.heap.modify g _)[g]? = _
  rw [Array.getElem?_modify, if_pos rfl, h]
  rfl

/-- The cells of a row of n bytes whose first k are those of l; the rest are 0. -/
def rowC (l : List UInt8) (n k : Nat) : Array Value := ((List.range n).map fun j => Value.int .u8 (if j < k then (((l.getD j 0).toNat : Nat) : Int) else 0)).toArray

theorem rowC_size (l : List UInt8) (n k : Nat) : (rowC l n k).size = n := by simp [rowC]

theorem rowC_get (l : List UInt8) (n k j : Nat) (h : j < n) : (rowC l n k)[j]? = some (Value.int .u8 (if j < k then (((l.getD j 0).toNat : Nat) : Int) else 0)) := by
  simp [rowC, h]

theorem rowC_zero (l : List UInt8) (n : Nat) : madeCells #[Value.int .u8 0] n = rowC l n 0 := by
  apply Array.ext
  · simp [rowC_size, size_madeCells]
  · intro i h1 h2
    have hi : i < n := by simpa [rowC_size] using h2
    have e := rowC_get l n 0 i hi
    rw [if_neg (by omega)] at e
    have e2 : (rowC l n 0)[i] = Value.int .u8 0 := by
      have := Array.getElem?_eq_getElem h2
      rw [this] at e
      exact Option.some.inj e
    rw [e2]
    simp [madeCells, Nat.mod_one]

theorem rowC_step (l : List UInt8) (n k : Nat) : (rowC l n k).setIfInBounds k (Value.int .u8 (((l.getD k 0).toNat : Nat) : Int)) = rowC l n (k + 1) := by
  apply Array.ext
  · simp [rowC_size]
  · intro i h1 h2
    have hi : i < n := by simpa [rowC_size] using h2
    apply Option.some.inj
    rw [← Array.getElem?_eq_getElem h1, ← Array.getElem?_eq_getElem h2, Array.getElem?_setIfInBounds, rowC_get l n (k + 1) i hi, rowC_get l n k i hi, rowC_size]
    by_cases e : k = i
    · subst e
      rw [if_pos rfl, if_pos (by omega), if_pos (by omega)]
    · rw [if_neg e]
      by_cases c : i < k
      · rw [if_pos c, if_pos (by omega)]
      · rw [if_neg c, if_neg (by omega)]

theorem rowC_end (l : List UInt8) (n j : Nat) (h : j < n) (hl : l.length = n) : (rowC l n n)[j]? = some (Value.int .u8 (((l[j]'(by omega)).toNat : Nat) : Int)) := by
  rw [rowC_get l n n j h, if_pos h]
  simp [List.getD_eq_getElem?_getD, List.getElem?_eq_getElem (show j < l.length by omega)]
end Go.Proofs.Ytonignmhmfhnfaa
