/- A map literal of two keys, true and false, with texts: laid, written, read. -/
import Derived.Test.YtocgnbbnaamjjaaDoorBlk
import Derived.Maps.Own
namespace Go.Proofs.YtocgnbbnaamjjaaDoor
open Go.RowKit Go.MapKept Go.ChangeMaps

/-- The same world, with another object in one block. -/
def putB (w : World) (B : Nat) (o : Obj) : World := { w with heap := w.heap.setIfInBounds B o }

theorem putB_at {w : World} {B : Nat} (o : Obj) (h : B < w.heap.size) : (putB w B o).heap[B]? = some o := by simp [putB, h]

theorem putB_below {C : Nat} {w0 w : World} {B : Nat} (o : Obj) (h : Below C w0 w) (hB : C ≤ B) : Below C w0 (putB w B o) :=
  ⟨h.os, h.tape, h.output, by simp [putB]; exact h.size, fun i hi => by
    have hne : B ≠ i := by omega
    show (w.heap.setIfInBounds B o)[i]? = _
    rw [Array.getElem?_setIfInBounds_ne hne]
    exact h.block i hi⟩

theorem lt_of_block {w : World} {B : Nat} {o : Obj} (h : w.heap[B]? = some o) : B < w.heap.size := by
  rcases Nat.lt_or_ge B w.heap.size with h1 | h1
  · exact h1
  · rw [Array.getElem?_eq_none h1] at h
    cases h

theorem key_bool (x : Bool) : IsKey .bool (.bool x) := trivial

theorem ins0 {w : World} {B : Nat} (x : Bool) (a : ByteArray) (h : w.heap[B]? = some (.map #[] 0)) :
    (Instr.mapUpdate 63 (.map (some B)) (.bool x) (.string a)).run Tryd.prog w = .ok () (putB w B (.map #[⟨.bool x, .string a, 0⟩] 1)) := by
  have h1 : Instr.findNow .bool (.bool x) (#[] : Array MapEntry).toList 0 = some none := rfl
  simp [Instr.mapUpdate, run_underlying Tryd.underlying63, MapKept.run_getObj_map h, run_checkKey Tryd.underlying4 (key_bool x), run_findKey Tryd.underlying4 h1, MapKept.run_setObj_map _ h, Result.andThen, putB]

theorem ins1 {w : World} {B : Nat} (x : Bool) (a b : ByteArray) (h : w.heap[B]? = some (.map #[⟨.bool x, .string a, 0⟩] 1)) :
    (Instr.mapUpdate 63 (.map (some B)) (.bool (!x)) (.string b)).run Tryd.prog w = .ok () (putB w B (.map #[⟨.bool x, .string a, 0⟩, ⟨.bool (!x), .string b, 1⟩] 2)) := by
  have h1 : Instr.findNow .bool (.bool (!x)) (#[⟨.bool x, .string a, 0⟩] : Array MapEntry).toList 0 = some none := by cases x <;> rfl
  simp [Instr.mapUpdate, run_underlying Tryd.underlying63, MapKept.run_getObj_map h, run_checkKey Tryd.underlying4 (key_bool (!x)), run_findKey Tryd.underlying4 h1, MapKept.run_setObj_map _ h, Result.andThen, putB]

theorem look2 {w : World} {B : Nat} (x k : Bool) (a b : ByteArray) (h : w.heap[B]? = some (.map #[⟨.bool x, .string a, 0⟩, ⟨.bool (!x), .string b, 1⟩] 2)) :
    (Instr.lookup 63 (.map (some B)) (.bool k) false).run Tryd.prog w = .ok (.string (if k = x then a else b)) w := by
  by_cases hk : k = x
  · have h1 : Instr.findNow .bool (.bool k) (#[⟨.bool x, .string a, 0⟩, ⟨.bool (!x), .string b, 1⟩] : Array MapEntry).toList 0 = some (some (0, .string a)) := by subst hk; cases k <;> rfl
    rw [if_pos hk]
    simp [Instr.lookup, run_underlying Tryd.underlying63, MapKept.run_getObj_map h, run_checkKey Tryd.underlying4 (key_bool k), run_findKey Tryd.underlying4 h1, Result.andThen]
  · have h1 : Instr.findNow .bool (.bool k) (#[⟨.bool x, .string a, 0⟩, ⟨.bool (!x), .string b, 1⟩] : Array MapEntry).toList 0 = some (some (1, .string b)) := by cases x <;> cases k <;> first | rfl | exact absurd rfl hk
    rw [if_neg hk]
    simp [Instr.lookup, run_underlying Tryd.underlying63, MapKept.run_getObj_map h, run_checkKey Tryd.underlying4 (key_bool k), run_findKey Tryd.underlying4 h1, Result.andThen]

end Go.Proofs.YtocgnbbnaamjjaaDoor
