/- A made row of bytes that is filled from its head on: plain cells. -/
import Derived.WalkKit
import Derived.WalkSpells
import Derived.Laws.IdiomStrings
namespace Go.Proofs.YtlfeholphngilaaDoor
open Go.RowKit

/-- A cell of a row is set. -/
theorem set_row {w : World} {g i : Nat} {v : Value} {c0 c : Array Value} {t : TypeId} (h : w.heap[g]? = some (.cells c0 t (0, 0))) (hc : c0.setIfInBounds i v = c) :
    (w.setCell ⟨g, i, none⟩ v).heap[g]? = some (.cells c t (0, 0)) := by
  rw [← hc]
  show (w.heap.modify g _)[g]? = _
  rw [Array.getElem?_modify, if_pos rfl, h]
  rfl

/-- The cells of a row of n bytes whose first k are those of l; the rest are 0. -/
def rowC (l : List UInt8) (n k : Nat) : Array Value := ((List.range n).map fun j => Value.int .u8 (if j < k then (((l.getD j 0).toNat : Nat) : Int) else 0)).toArray

theorem rowC_size (l : List UInt8) (n k : Nat) : (rowC l n k).size = n := by simp [rowC]

theorem rowC_get (l : List UInt8) (n k j : Nat) (h : j < n) : (rowC l n k)[j]? = some (Value.int .u8 (if j < k then (((l.getD j 0).toNat : Nat) : Int) else 0)) := by
  simp [rowC, h]

theorem rowC_zero (l : List UInt8) (n : Nat) : madeCells #[Value.int .u8 0] n = rowC l n 0 := by
  apply Array.ext
  · simp [rowC_size, size_madeCells]
  · intro i h1 h2
    have hi : i < n := by simpa [rowC_size] using h2
    have e := rowC_get l n 0 i hi
    rw [if_neg (by omega)] at e
    have e2 : (rowC l n 0)[i] = Value.int .u8 0 := by
      have := Array.getElem?_eq_getElem h2
      rw [this] at e
      exact Option.some.inj e
    rw [e2]
    simp [madeCells, Nat.mod_one]

theorem rowC_step (l : List UInt8) (n k : Nat) : (rowC l n k).setIfInBounds k (Value.int .u8 (((l.getD k 0).toNat : Nat) : Int)) = rowC l n (k + 1) := by
  apply Array.ext
  · simp [rowC_size]
  · intro i h1 h2
    have hi : i < n := by simpa [rowC_size] using h2
    apply Option.some.inj
    rw [← Array.getElem?_eq_getElem h1, ← Array.getElem?_eq_getElem h2, Array.getElem?_setIfInBounds, rowC_get l n (k + 1) i hi, rowC_get l n k i hi, rowC_size]
    by_cases e : k = i
    · subst e
      rw [if_pos rfl, if_pos (by omega), if_pos (by omega)]
    · rw [if_neg e]
      by_cases c : i < k
      · rw [if_pos c, if_pos (by omega)]
      · rw [if_neg c, if_neg (by omega)]

theorem rowC_end (l : List UInt8) (n j : Nat) (h : j < n) (hl : l.length = n) : (rowC l n n)[j]? = some (Value.int .u8 (((l[j]'(by omega)).toNat : Nat) : Int)) := by
  rw [rowC_get l n n j h, if_pos h]
  simp [List.getD_eq_getElem?_getD, List.getElem?_eq_getElem (show j < l.length by omega)]
/-- The bytes l lie in block B from its head on; the block is one that '[]byte(..)' laid. -/
def BRow (w : World) (B : Nat) (l : List UInt8) : Prop :=
  ∃ C : Array Value, w.heap[B]? = some (.cells C 5 (C.size, C.size + 1)) ∧ ∀ (k : Nat) (x : UInt8), l[k]? = some x → C[k]? = some (Value.int .u8 (x.toNat : Int))

theorem BRow.cell {w : World} {B k : Nat} {l : List UInt8} (h : BRow w B l) (hk : k < l.length) : w.cell? ⟨B, k, none⟩ = some (.int .u8 ((l[k]).toNat : Int)) := by
  obtain ⟨C, h, q⟩ := h
  have e := q k (l[k]) (List.getElem?_eq_getElem hk)
  simp [World.cell?, h, e]

theorem BRow.cellD {w : World} {B k : Nat} {l : List UInt8} (h : BRow w B l) (hk : k < l.length) : w.cell? ⟨B, k, none⟩ = some (.int .u8 ((l.getD k 0).toNat : Int)) := by
  rw [h.cell hk, List.getD_eq_getElem?_getD, List.getElem?_eq_getElem hk]
  rfl

theorem BRow.fz {w : World} {B k : Nat} {l : List UInt8} (h : BRow w B l) (hk : k < l.length) : w.frozen? ⟨B, k, none⟩ = false := by
  obtain ⟨C, h, q⟩ := h
  have e := (Array.getElem?_eq_some_iff.1 (q k (l[k]) (List.getElem?_eq_getElem hk))).1
  simp [World.frozen?, h]
  omega

theorem BRow.same {w w' : World} {B : Nat} {l : List UInt8} (h : BRow w B l) (hw : w'.heap[B]? = w.heap[B]?) : BRow w' B l := by
  obtain ⟨C, h, q⟩ := h
  exact ⟨C, hw.trans h, q⟩

theorem BRow.lt {w : World} {B : Nat} {l : List UInt8} (h : BRow w B l) : B < w.heap.size := by
  obtain ⟨C, h, q⟩ := h
  exact (Array.getElem?_eq_some_iff.1 h).1

theorem BRow.set {w : World} {B k : Nat} {l : List UInt8} (h : BRow w B l) (c : UInt8) : BRow (w.setCell ⟨B, k, none⟩ (.int .u8 (c.toNat : Int))) B (l.set k c) := by
  obtain ⟨C, h, q⟩ := h
  refine ⟨C.setIfInBounds k (.int .u8 (c.toNat : Int)), ?_, fun j x hx => ?_⟩
  · show (w.heap.modify B _)[B]? = _
    rw [Array.getElem?_modify, if_pos rfl, h]
    simp
  · rw [List.getElem?_set] at hx
    by_cases e : k = j
    · subst e
      by_cases hl : k < l.length
      · have e2 := (Array.getElem?_eq_some_iff.1 (q k (l[k]) (List.getElem?_eq_getElem hl))).1
        simp [hl] at hx
        subst hx
        simp [e2]
      · simp [hl] at hx
    · rw [if_neg e] at hx
      rw [Array.getElem?_setIfInBounds_ne e]
      exact q j x hx

theorem BRow.new (W : World) (s : ByteArray) (c : Nat) : BRow (W.alloc (.cells (bytesRow s c) 5 ((bytesRow s c).size, (bytesRow s c).size + 1))) W.heap.size s.data.toList := by
  refine ⟨bytesRow s c, heap_alloc_new W _, fun k x hx => ?_⟩
  have hk : k < s.data.size := by
    have := (List.getElem?_eq_some_iff.1 hx).1
    simpa using this
  rw [Array.getElem?_toList] at hx
  rw [bytesRow, Array.getElem?_append_left (by simpa using hk), Array.getElem?_map, hx]
  rfl

end Go.Proofs.YtlfeholphngilaaDoor
