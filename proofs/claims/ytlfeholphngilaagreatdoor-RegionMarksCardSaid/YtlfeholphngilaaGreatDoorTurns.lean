/- The reference's map of turns: laid, read. -/
import Derived.Test.YtlfeholphngilaaGreatDoorMd5M
import Derived.Test.YtlfeholphngilaaGreatDoorProg
import Derived.WalkKit
import Derived.Maps.Own
import Derived.Deep.Cut
namespace Go.Proofs.YtlfeholphngilaaGreatDoor
open Go.RowKit Go.MapKept Go.ChangeMaps
set_option linter.unusedVariables false
set_option maxRecDepth 100000

/-- The same world, with another object in one block. -/
def putM (w : World) (B : Nat) (o : Obj) : World := { w with heap := w.heap.setIfInBounds B o }
theorem putM_at {w : World} {B : Nat} (o : Obj) (h : B < w.heap.size) : (putM w B o).heap[B]? = some o := by simp [putM, h]
theorem putM_below {C : Nat} {w0 w : World} {B : Nat} (o : Obj) (h : Below C w0 w) (hB : C ≤ B) : Below C w0 (putM w B o) :=
  ⟨h.os, h.tape, h.output, by simp [putM]; exact h.size, fun i hi => by
    show (w.heap.setIfInBounds B o)[i]? = _
    rw [Array.getElem?_setIfInBounds_ne (by omega)]
    exact h.block i hi⟩
theorem ltM {w : World} {B : Nat} {o : Obj} (h : w.heap[B]? = some o) : B < w.heap.size := (Array.getElem?_eq_some_iff.1 h).1
theorem keyM (x : Int) : IsKey (.int .i64) (.int .i64 x) := rfl
theorem ins_new {w : World} {B n : Nat} {es : Array MapEntry} (k v : Int) (h : w.heap[B]? = some (.map es n)) (hf : Instr.findNow (.int .i64) (.int .i64 k) es.toList 0 = some none) :
    (Instr.mapUpdate 74 (.map (some B)) (.int .i64 k) (.int .i64 v)).run Tryz.prog w = .ok () (putM w B (.map (es.push ⟨.int .i64 k, .int .i64 v, n⟩) (n + 1))) := by
  simp [Instr.mapUpdate, run_underlying Tryz.underlying74, MapKept.run_getObj_map h, run_checkKey Tryz.underlying3 (keyM k), run_findKey Tryz.underlying3 hf, MapKept.run_setObj_map _ h, Result.andThen, putM]
def turnE : Array MapEntry := #[⟨.int .i64 0, .int .i64 7, 0⟩, ⟨.int .i64 1, .int .i64 12, 1⟩, ⟨.int .i64 2, .int .i64 17, 2⟩, ⟨.int .i64 3, .int .i64 22, 3⟩, ⟨.int .i64 16, .int .i64 5, 4⟩, ⟨.int .i64 17, .int .i64 9, 5⟩, ⟨.int .i64 18, .int .i64 14, 6⟩, ⟨.int .i64 19, .int .i64 20, 7⟩, ⟨.int .i64 32, .int .i64 4, 8⟩, ⟨.int .i64 33, .int .i64 11, 9⟩, ⟨.int .i64 34, .int .i64 16, 10⟩, ⟨.int .i64 35, .int .i64 23, 11⟩, ⟨.int .i64 48, .int .i64 6, 12⟩, ⟨.int .i64 49, .int .i64 10, 13⟩, ⟨.int .i64 50, .int .i64 15, 14⟩, ⟨.int .i64 51, .int .i64 21, 15⟩]
def TurnsAt (w : World) (M : Nat) : Prop := w.heap[M]? = some (.map turnE 16)
theorem TurnsAt.below {w w' : World} {M B : Nat} (h : TurnsAt w M) (hb : Below B w w') (hM : M < B) : TurnsAt w' M := (hb.block M hM).trans h
theorem look_one {w : World} {M : Nat} (k v : Int) (j : Nat) (h : TurnsAt w M) (hf : Instr.findNow (.int .i64) (.int .i64 k) turnE.toList 0 = some (some (j, .int .i64 v))) :
    (Instr.lookup 74 (.map (some M)) (.int .i64 k) false).run Tryz.prog w = .ok (.int .i64 v) w := by
  simp [Instr.lookup, run_underlying Tryz.underlying74, MapKept.run_getObj_map h, run_checkKey Tryz.underlying3 (keyM k), run_findKey Tryz.underlying3 hf, Result.andThen]
theorem key_all : ∀ i : Nat, i < 64 → (i / 16 * 16 + i % 4, turnN i) ∈ [(0, 7), (1, 12), (2, 17), (3, 22), (16, 5), (17, 9), (18, 14), (19, 20), (32, 4), (33, 11), (34, 16), (35, 23), (48, 6), (49, 10), (50, 15), (51, 21)] := by decide
theorem turns_look {w : World} {M : Nat} (h : TurnsAt w M) (i : Nat) (hi : i < 64) :
    (Instr.lookup 74 (.map (some M)) (.int .i64 ((i : Int) / 16 * 16 + (i : Int) % 4)) false).run Tryz.prog w = .ok (.int .i64 (turnN i : Nat)) w := by
  have hk := key_all i hi
  rw [show (i : Int) / 16 * 16 + (i : Int) % 4 = ((i / 16 * 16 + i % 4 : Nat) : Int) by omega]
  generalize i / 16 * 16 + i % 4 = k at *
  generalize turnN i = v at *
  simp only [List.mem_cons, Prod.mk.injEq, List.not_mem_nil, or_false] at hk
  rcases hk with ⟨rfl, rfl⟩ | ⟨rfl, rfl⟩ | ⟨rfl, rfl⟩ | ⟨rfl, rfl⟩ | ⟨rfl, rfl⟩ | ⟨rfl, rfl⟩ | ⟨rfl, rfl⟩ | ⟨rfl, rfl⟩ | ⟨rfl, rfl⟩ | ⟨rfl, rfl⟩ | ⟨rfl, rfl⟩ | ⟨rfl, rfl⟩ | ⟨rfl, rfl⟩ | ⟨rfl, rfl⟩ | ⟨rfl, rfl⟩ | ⟨rfl, rfl⟩
  · exact look_one 0 7 0 h (by rfl)
  · exact look_one 1 12 1 h (by rfl)
  · exact look_one 2 17 2 h (by rfl)
  · exact look_one 3 22 3 h (by rfl)
  · exact look_one 16 5 4 h (by rfl)
  · exact look_one 17 9 5 h (by rfl)
  · exact look_one 18 14 6 h (by rfl)
  · exact look_one 19 20 7 h (by rfl)
  · exact look_one 32 4 8 h (by rfl)
  · exact look_one 33 11 9 h (by rfl)
  · exact look_one 34 16 10 h (by rfl)
  · exact look_one 35 23 11 h (by rfl)
  · exact look_one 48 6 12 h (by rfl)
  · exact look_one 49 10 13 h (by rfl)
  · exact look_one 50 15 14 h (by rfl)
  · exact look_one 51 21 15 h (by rfl)
/-- What the literal leaves of a world: a new block; the rest is as it was. -/
theorem turns_world (w : World) : ∃ w0 w1 w2 w3 w4 w5 w6 w7 w8 w9 w10 w11 w12 w13 w14 w15 w16 : World, w0 = w.alloc (.map #[] 0) ∧
    (Instr.mapUpdate 74 (.map (some w.heap.size)) (.int .i64 0) (.int .i64 7)).run Tryz.prog w0 = .ok () w1 ∧
    (Instr.mapUpdate 74 (.map (some w.heap.size)) (.int .i64 1) (.int .i64 12)).run Tryz.prog w1 = .ok () w2 ∧
    (Instr.mapUpdate 74 (.map (some w.heap.size)) (.int .i64 2) (.int .i64 17)).run Tryz.prog w2 = .ok () w3 ∧
    (Instr.mapUpdate 74 (.map (some w.heap.size)) (.int .i64 3) (.int .i64 22)).run Tryz.prog w3 = .ok () w4 ∧
    (Instr.mapUpdate 74 (.map (some w.heap.size)) (.int .i64 16) (.int .i64 5)).run Tryz.prog w4 = .ok () w5 ∧
    (Instr.mapUpdate 74 (.map (some w.heap.size)) (.int .i64 17) (.int .i64 9)).run Tryz.prog w5 = .ok () w6 ∧
    (Instr.mapUpdate 74 (.map (some w.heap.size)) (.int .i64 18) (.int .i64 14)).run Tryz.prog w6 = .ok () w7 ∧
    (Instr.mapUpdate 74 (.map (some w.heap.size)) (.int .i64 19) (.int .i64 20)).run Tryz.prog w7 = .ok () w8 ∧
    (Instr.mapUpdate 74 (.map (some w.heap.size)) (.int .i64 32) (.int .i64 4)).run Tryz.prog w8 = .ok () w9 ∧
    (Instr.mapUpdate 74 (.map (some w.heap.size)) (.int .i64 33) (.int .i64 11)).run Tryz.prog w9 = .ok () w10 ∧
    (Instr.mapUpdate 74 (.map (some w.heap.size)) (.int .i64 34) (.int .i64 16)).run Tryz.prog w10 = .ok () w11 ∧
    (Instr.mapUpdate 74 (.map (some w.heap.size)) (.int .i64 35) (.int .i64 23)).run Tryz.prog w11 = .ok () w12 ∧
    (Instr.mapUpdate 74 (.map (some w.heap.size)) (.int .i64 48) (.int .i64 6)).run Tryz.prog w12 = .ok () w13 ∧
    (Instr.mapUpdate 74 (.map (some w.heap.size)) (.int .i64 49) (.int .i64 10)).run Tryz.prog w13 = .ok () w14 ∧
    (Instr.mapUpdate 74 (.map (some w.heap.size)) (.int .i64 50) (.int .i64 15)).run Tryz.prog w14 = .ok () w15 ∧
    (Instr.mapUpdate 74 (.map (some w.heap.size)) (.int .i64 51) (.int .i64 21)).run Tryz.prog w15 = .ok () w16 ∧
    TurnsAt w16 w.heap.size ∧ Below w.heap.size w w16 := by
  have m0 : (w.alloc (.map #[] 0)).heap[w.heap.size]? = some (.map #[] 0) := heap_alloc_new w _
  have b0 : Below w.heap.size w (w.alloc (.map #[] 0)) := (Below.refl _ _).alloc (Nat.le_refl _) _
  generalize w.alloc (.map #[] 0) = w0 at *
  have h1 := ins_new 0 7 m0 (by rfl)
  have m1 := putM_at (w := w0) (.map (#[⟨.int .i64 0, .int .i64 7, 0⟩]) 1) (ltM m0)
  have b1 := putM_below (.map (#[⟨.int .i64 0, .int .i64 7, 0⟩]) 1) b0 (Nat.le_refl _)
  replace h1 : (Instr.mapUpdate 74 (.map (some w.heap.size)) (.int .i64 0) (.int .i64 7)).run Tryz.prog w0 = .ok () (putM w0 w.heap.size (.map (#[⟨.int .i64 0, .int .i64 7, 0⟩]) 1)) := h1
  generalize putM w0 w.heap.size (.map (#[⟨.int .i64 0, .int .i64 7, 0⟩]) 1) = w1 at *
  have h2 := ins_new 1 12 m1 (by rfl)
  have m2 := putM_at (w := w1) (.map (#[⟨.int .i64 0, .int .i64 7, 0⟩, ⟨.int .i64 1, .int .i64 12, 1⟩]) 2) (ltM m1)
  have b2 := putM_below (.map (#[⟨.int .i64 0, .int .i64 7, 0⟩, ⟨.int .i64 1, .int .i64 12, 1⟩]) 2) b1 (Nat.le_refl _)
  replace h2 : (Instr.mapUpdate 74 (.map (some w.heap.size)) (.int .i64 1) (.int .i64 12)).run Tryz.prog w1 = .ok () (putM w1 w.heap.size (.map (#[⟨.int .i64 0, .int .i64 7, 0⟩, ⟨.int .i64 1, .int .i64 12, 1⟩]) 2)) := h2
  generalize putM w1 w.heap.size (.map (#[⟨.int .i64 0, .int .i64 7, 0⟩, ⟨.int .i64 1, .int .i64 12, 1⟩]) 2) = w2 at *
  have h3 := ins_new 2 17 m2 (by rfl)
  have m3 := putM_at (w := w2) (.map (#[⟨.int .i64 0, .int .i64 7, 0⟩, ⟨.int .i64 1, .int .i64 12, 1⟩, ⟨.int .i64 2, .int .i64 17, 2⟩]) 3) (ltM m2)
  have b3 := putM_below (.map (#[⟨.int .i64 0, .int .i64 7, 0⟩, ⟨.int .i64 1, .int .i64 12, 1⟩, ⟨.int .i64 2, .int .i64 17, 2⟩]) 3) b2 (Nat.le_refl _)
  replace h3 : (Instr.mapUpdate 74 (.map (some w.heap.size)) (.int .i64 2) (.int .i64 17)).run Tryz.prog w2 = .ok () (putM w2 w.heap.size (.map (#[⟨.int .i64 0, .int .i64 7, 0⟩, ⟨.int .i64 1, .int .i64 12, 1⟩, ⟨.int .i64 2, .int .i64 17, 2⟩]) 3)) := h3
  generalize putM w2 w.heap.size (.map (#[⟨.int .i64 0, .int .i64 7, 0⟩, ⟨.int .i64 1, .int .i64 12, 1⟩, ⟨.int .i64 2, .int .i64 17, 2⟩]) 3) = w3 at *
  have h4 := ins_new 3 22 m3 (by rfl)
  have m4 := putM_at (w := w3) (.map (#[⟨.int .i64 0, .int .i64 7, 0⟩, ⟨.int .i64 1, .int .i64 12, 1⟩, ⟨.int .i64 2, .int .i64 17, 2⟩, ⟨.int .i64 3, .int .i64 22, 3⟩]) 4) (ltM m3)
  have b4 := putM_below (.map (#[⟨.int .i64 0, .int .i64 7, 0⟩, ⟨.int .i64 1, .int .i64 12, 1⟩, ⟨.int .i64 2, .int .i64 17, 2⟩, ⟨.int .i64 3, .int .i64 22, 3⟩]) 4) b3 (Nat.le_refl _)
  replace h4 : (Instr.mapUpdate 74 (.map (some w.heap.size)) (.int .i64 3) (.int .i64 22)).run Tryz.prog w3 = .ok () (putM w3 w.heap.size (.map (#[⟨.int .i64 0, .int .i64 7, 0⟩, ⟨.int .i64 1, .int .i64 12, 1⟩, ⟨.int .i64 2, .int .i64 17, 2⟩, ⟨.int .i64 3, .int .i64 22, 3⟩]) 4)) := h4
  generalize putM w3 w.heap.size (.map (#[⟨.int .i64 0, .int .i64 7, 0⟩, ⟨.int .i64 1, .int .i64 12, 1⟩, ⟨.int .i64 2, .int .i64 17, 2⟩, ⟨.int .i64 3, .int .i64 22, 3⟩]) 4) = w4 at *
  have h5 := ins_new 16 5 m4 (by rfl)
  have m5 := putM_at (w := w4) (.map (#[⟨.int .i64 0, .int .i64 7, 0⟩, ⟨.int .i64 1, .int .i64 12, 1⟩, ⟨.int .i64 2, .int .i64 17, 2⟩, ⟨.int .i64 3, .int .i64 22, 3⟩, ⟨.int .i64 16, .int .i64 5, 4⟩]) 5) (ltM m4)
  have b5 := putM_below (.map (#[⟨.int .i64 0, .int .i64 7, 0⟩, ⟨.int .i64 1, .int .i64 12, 1⟩, ⟨.int .i64 2, .int .i64 17, 2⟩, ⟨.int .i64 3, .int .i64 22, 3⟩, ⟨.int .i64 16, .int .i64 5, 4⟩]) 5) b4 (Nat.le_refl _)
  replace h5 : (Instr.mapUpdate 74 (.map (some w.heap.size)) (.int .i64 16) (.int .i64 5)).run Tryz.prog w4 = .ok () (putM w4 w.heap.size (.map (#[⟨.int .i64 0, .int .i64 7, 0⟩, ⟨.int .i64 1, .int .i64 12, 1⟩, ⟨.int .i64 2, .int .i64 17, 2⟩, ⟨.int .i64 3, .int .i64 22, 3⟩, ⟨.int .i64 16, .int .i64 5, 4⟩]) 5)) := h5
  generalize putM w4 w.heap.size (.map (#[⟨.int .i64 0, .int .i64 7, 0⟩, ⟨.int .i64 1, .int .i64 12, 1⟩, ⟨.int .i64 2, .int .i64 17, 2⟩, ⟨.int .i64 3, .int .i64 22, 3⟩, ⟨.int .i64 16, .int .i64 5, 4⟩]) 5) = w5 at *
  have h6 := ins_new 17 9 m5 (by rfl)
  have m6 := putM_at (w := w5) (.map (#[⟨.int .i64 0, .int .i64 7, 0⟩, ⟨.int .i64 1, .int .i64 12, 1⟩, ⟨.int .i64 2, .int .i64 17, 2⟩, ⟨.int .i64 3, .int .i64 22, 3⟩, ⟨.int .i64 16, .int .i64 5, 4⟩, ⟨.int .i64 17, .int .i64 9, 5⟩]) 6) (ltM m5)
  have b6 := putM_below (.map (#[⟨.int .i64 0, .int .i64 7, 0⟩, ⟨.int .i64 1, .int .i64 12, 1⟩, ⟨.int .i64 2, .int .i64 17, 2⟩, ⟨.int .i64 3, .int .i64 22, 3⟩, ⟨.int .i64 16, .int .i64 5, 4⟩, ⟨.int .i64 17, .int .i64 9, 5⟩]) 6) b5 (Nat.le_refl _)
  replace h6 : (Instr.mapUpdate 74 (.map (some w.heap.size)) (.int .i64 17) (.int .i64 9)).run Tryz.prog w5 = .ok () (putM w5 w.heap.size (.map (#[⟨.int .i64 0, .int .i64 7, 0⟩, ⟨.int .i64 1, .int .i64 12, 1⟩, ⟨.int .i64 2, .int .i64 17, 2⟩, ⟨.int .i64 3, .int .i64 22, 3⟩, ⟨.int .i64 16, .int .i64 5, 4⟩, ⟨.int .i64 17, .int .i64 9, 5⟩]) 6)) := h6
  generalize putM w5 w.heap.size (.map (#[⟨.int .i64 0, .int .i64 7, 0⟩, ⟨.int .i64 1, .int .i64 12, 1⟩, ⟨.int .i64 2, .int .i64 17, 2⟩, ⟨.int .i64 3, .int .i64 22, 3⟩, ⟨.int .i64 16, .int .i64 5, 4⟩, ⟨.int .i64 17, .int .i64 9, 5⟩]) 6) = w6 at *
  have h7 := ins_new 18 14 m6 (by rfl)
  have m7 := putM_at (w := w6) (.map (#[⟨.int .i64 0, .int .i64 7, 0⟩, ⟨.int .i64 1, .int .i64 12, 1⟩, ⟨.int .i64 2, .int .i64 17, 2⟩, ⟨.int .i64 3, .int .i64 22, 3⟩, ⟨.int .i64 16, .int .i64 5, 4⟩, ⟨.int .i64 17, .int .i64 9, 5⟩, ⟨.int .i64 18, .int .i64 14, 6⟩]) 7) (ltM m6)
  have b7 := putM_below (.map (#[⟨.int .i64 0, .int .i64 7, 0⟩, ⟨.int .i64 1, .int .i64 12, 1⟩, ⟨.int .i64 2, .int .i64 17, 2⟩, ⟨.int .i64 3, .int .i64 22, 3⟩, ⟨.int .i64 16, .int .i64 5, 4⟩, ⟨.int .i64 17, .int .i64 9, 5⟩, ⟨.int .i64 18, .int .i64 14, 6⟩]) 7) b6 (Nat.le_refl _)
  replace h7 : (Instr.mapUpdate 74 (.map (some w.heap.size)) (.int .i64 18) (.int .i64 14)).run Tryz.prog w6 = .ok () (putM w6 w.heap.size (.map (#[⟨.int .i64 0, .int .i64 7, 0⟩, ⟨.int .i64 1, .int .i64 12, 1⟩, ⟨.int .i64 2, .int .i64 17, 2⟩, ⟨.int .i64 3, .int .i64 22, 3⟩, ⟨.int .i64 16, .int .i64 5, 4⟩, ⟨.int .i64 17, .int .i64 9, 5⟩, ⟨.int .i64 18, .int .i64 14, 6⟩]) 7)) := h7
  generalize putM w6 w.heap.size (.map (#[⟨.int .i64 0, .int .i64 7, 0⟩, ⟨.int .i64 1, .int .i64 12, 1⟩, ⟨.int .i64 2, .int .i64 17, 2⟩, ⟨.int .i64 3, .int .i64 22, 3⟩, ⟨.int .i64 16, .int .i64 5, 4⟩, ⟨.int .i64 17, .int .i64 9, 5⟩, ⟨.int .i64 18, .int .i64 14, 6⟩]) 7) = w7 at *
  have h8 := ins_new 19 20 m7 (by rfl)
  have m8 := putM_at (w := w7) (.map (#[⟨.int .i64 0, .int .i64 7, 0⟩, ⟨.int .i64 1, .int .i64 12, 1⟩, ⟨.int .i64 2, .int .i64 17, 2⟩, ⟨.int .i64 3, .int .i64 22, 3⟩, ⟨.int .i64 16, .int .i64 5, 4⟩, ⟨.int .i64 17, .int .i64 9, 5⟩, ⟨.int .i64 18, .int .i64 14, 6⟩, ⟨.int .i64 19, .int .i64 20, 7⟩]) 8) (ltM m7)
  have b8 := putM_below (.map (#[⟨.int .i64 0, .int .i64 7, 0⟩, ⟨.int .i64 1, .int .i64 12, 1⟩, ⟨.int .i64 2, .int .i64 17, 2⟩, ⟨.int .i64 3, .int .i64 22, 3⟩, ⟨.int .i64 16, .int .i64 5, 4⟩, ⟨.int .i64 17, .int .i64 9, 5⟩, ⟨.int .i64 18, .int .i64 14, 6⟩, ⟨.int .i64 19, .int .i64 20, 7⟩]) 8) b7 (Nat.le_refl _)
  replace h8 : (Instr.mapUpdate 74 (.map (some w.heap.size)) (.int .i64 19) (.int .i64 20)).run Tryz.prog w7 = .ok () (putM w7 w.heap.size (.map (#[⟨.int .i64 0, .int .i64 7, 0⟩, ⟨.int .i64 1, .int .i64 12, 1⟩, ⟨.int .i64 2, .int .i64 17, 2⟩, ⟨.int .i64 3, .int .i64 22, 3⟩, ⟨.int .i64 16, .int .i64 5, 4⟩, ⟨.int .i64 17, .int .i64 9, 5⟩, ⟨.int .i64 18, .int .i64 14, 6⟩, ⟨.int .i64 19, .int .i64 20, 7⟩]) 8)) := h8
  generalize putM w7 w.heap.size (.map (#[⟨.int .i64 0, .int .i64 7, 0⟩, ⟨.int .i64 1, .int .i64 12, 1⟩, ⟨.int .i64 2, .int .i64 17, 2⟩, ⟨.int .i64 3, .int .i64 22, 3⟩, ⟨.int .i64 16, .int .i64 5, 4⟩, ⟨.int .i64 17, .int .i64 9, 5⟩, ⟨.int .i64 18, .int .i64 14, 6⟩, ⟨.int .i64 19, .int .i64 20, 7⟩]) 8) = w8 at *
  have h9 := ins_new 32 4 m8 (by rfl)
  have m9 := putM_at (w := w8) (.map (#[⟨.int .i64 0, .int .i64 7, 0⟩, ⟨.int .i64 1, .int .i64 12, 1⟩, ⟨.int .i64 2, .int .i64 17, 2⟩, ⟨.int .i64 3, .int .i64 22, 3⟩, ⟨.int .i64 16, .int .i64 5, 4⟩, ⟨.int .i64 17, .int .i64 9, 5⟩, ⟨.int .i64 18, .int .i64 14, 6⟩, ⟨.int .i64 19, .int .i64 20, 7⟩, ⟨.int .i64 32, .int .i64 4, 8⟩]) 9) (ltM m8)
  have b9 := putM_below (.map (#[⟨.int .i64 0, .int .i64 7, 0⟩, ⟨.int .i64 1, .int .i64 12, 1⟩, ⟨.int .i64 2, .int .i64 17, 2⟩, ⟨.int .i64 3, .int .i64 22, 3⟩, ⟨.int .i64 16, .int .i64 5, 4⟩, ⟨.int .i64 17, .int .i64 9, 5⟩, ⟨.int .i64 18, .int .i64 14, 6⟩, ⟨.int .i64 19, .int .i64 20, 7⟩, ⟨.int .i64 32, .int .i64 4, 8⟩]) 9) b8 (Nat.le_refl _)
  replace h9 : (Instr.mapUpdate 74 (.map (some w.heap.size)) (.int .i64 32) (.int .i64 4)).run Tryz.prog w8 = .ok () (putM w8 w.heap.size (.map (#[⟨.int .i64 0, .int .i64 7, 0⟩, ⟨.int .i64 1, .int .i64 12, 1⟩, ⟨.int .i64 2, .int .i64 17, 2⟩, ⟨.int .i64 3, .int .i64 22, 3⟩, ⟨.int .i64 16, .int .i64 5, 4⟩, ⟨.int .i64 17, .int .i64 9, 5⟩, ⟨.int .i64 18, .int .i64 14, 6⟩, ⟨.int .i64 19, .int .i64 20, 7⟩, ⟨.int .i64 32, .int .i64 4, 8⟩]) 9)) := h9
  generalize putM w8 w.heap.size (.map (#[⟨.int .i64 0, .int .i64 7, 0⟩, ⟨.int .i64 1, .int .i64 12, 1⟩, ⟨.int .i64 2, .int .i64 17, 2⟩, ⟨.int .i64 3, .int .i64 22, 3⟩, ⟨.int .i64 16, .int .i64 5, 4⟩, ⟨.int .i64 17, .int .i64 9, 5⟩, ⟨.int .i64 18, .int .i64 14, 6⟩, ⟨.int .i64 19, .int .i64 20, 7⟩, ⟨.int .i64 32, .int .i64 4, 8⟩]) 9) = w9 at *
  have h10 := ins_new 33 11 m9 (by rfl)
  have m10 := putM_at (w := w9) (.map (#[⟨.int .i64 0, .int .i64 7, 0⟩, ⟨.int .i64 1, .int .i64 12, 1⟩, ⟨.int .i64 2, .int .i64 17, 2⟩, ⟨.int .i64 3, .int .i64 22, 3⟩, ⟨.int .i64 16, .int .i64 5, 4⟩, ⟨.int .i64 17, .int .i64 9, 5⟩, ⟨.int .i64 18, .int .i64 14, 6⟩, ⟨.int .i64 19, .int .i64 20, 7⟩, ⟨.int .i64 32, .int .i64 4, 8⟩, ⟨.int .i64 33, .int .i64 11, 9⟩]) 10) (ltM m9)
  have b10 := putM_below (.map (#[⟨.int .i64 0, .int .i64 7, 0⟩, ⟨.int .i64 1, .int .i64 12, 1⟩, ⟨.int .i64 2, .int .i64 17, 2⟩, ⟨.int .i64 3, .int .i64 22, 3⟩, ⟨.int .i64 16, .int .i64 5, 4⟩, ⟨.int .i64 17, .int .i64 9, 5⟩, ⟨.int .i64 18, .int .i64 14, 6⟩, ⟨.int .i64 19, .int .i64 20, 7⟩, ⟨.int .i64 32, .int .i64 4, 8⟩, ⟨.int .i64 33, .int .i64 11, 9⟩]) 10) b9 (Nat.le_refl _)
  replace h10 : (Instr.mapUpdate 74 (.map (some w.heap.size)) (.int .i64 33) (.int .i64 11)).run Tryz.prog w9 = .ok () (putM w9 w.heap.size (.map (#[⟨.int .i64 0, .int .i64 7, 0⟩, ⟨.int .i64 1, .int .i64 12, 1⟩, ⟨.int .i64 2, .int .i64 17, 2⟩, ⟨.int .i64 3, .int .i64 22, 3⟩, ⟨.int .i64 16, .int .i64 5, 4⟩, ⟨.int .i64 17, .int .i64 9, 5⟩, ⟨.int .i64 18, .int .i64 14, 6⟩, ⟨.int .i64 19, .int .i64 20, 7⟩, ⟨.int .i64 32, .int .i64 4, 8⟩, ⟨.int .i64 33, .int .i64 11, 9⟩]) 10)) := h10
  generalize putM w9 w.heap.size (.map (#[⟨.int .i64 0, .int .i64 7, 0⟩, ⟨.int .i64 1, .int .i64 12, 1⟩, ⟨.int .i64 2, .int .i64 17, 2⟩, ⟨.int .i64 3, .int .i64 22, 3⟩, ⟨.int .i64 16, .int .i64 5, 4⟩, ⟨.int .i64 17, .int .i64 9, 5⟩, ⟨.int .i64 18, .int .i64 14, 6⟩, ⟨.int .i64 19, .int .i64 20, 7⟩, ⟨.int .i64 32, .int .i64 4, 8⟩, ⟨.int .i64 33, .int .i64 11, 9⟩]) 10) = w10 at *
  have h11 := ins_new 34 16 m10 (by rfl)
  have m11 := putM_at (w := w10) (.map (#[⟨.int .i64 0, .int .i64 7, 0⟩, ⟨.int .i64 1, .int .i64 12, 1⟩, ⟨.int .i64 2, .int .i64 17, 2⟩, ⟨.int .i64 3, .int .i64 22, 3⟩, ⟨.int .i64 16, .int .i64 5, 4⟩, ⟨.int .i64 17, .int .i64 9, 5⟩, ⟨.int .i64 18, .int .i64 14, 6⟩, ⟨.int .i64 19, .int .i64 20, 7⟩, ⟨.int .i64 32, .int .i64 4, 8⟩, ⟨.int .i64 33, .int .i64 11, 9⟩, ⟨.int .i64 34, .int .i64 16, 10⟩]) 11) (ltM m10)
  have b11 := putM_below (.map (#[⟨.int .i64 0, .int .i64 7, 0⟩, ⟨.int .i64 1, .int .i64 12, 1⟩, ⟨.int .i64 2, .int .i64 17, 2⟩, ⟨.int .i64 3, .int .i64 22, 3⟩, ⟨.int .i64 16, .int .i64 5, 4⟩, ⟨.int .i64 17, .int .i64 9, 5⟩, ⟨.int .i64 18, .int .i64 14, 6⟩, ⟨.int .i64 19, .int .i64 20, 7⟩, ⟨.int .i64 32, .int .i64 4, 8⟩, ⟨.int .i64 33, .int .i64 11, 9⟩, ⟨.int .i64 34, .int .i64 16, 10⟩]) 11) b10 (Nat.le_refl _)
  replace h11 : (Instr.mapUpdate 74 (.map (some w.heap.size)) (.int .i64 34) (.int .i64 16)).run Tryz.prog w10 = .ok () (putM w10 w.heap.size (.map (#[⟨.int .i64 0, .int .i64 7, 0⟩, ⟨.int .i64 1, .int .i64 12, 1⟩, ⟨.int .i64 2, .int .i64 17, 2⟩, ⟨.int .i64 3, .int .i64 22, 3⟩, ⟨.int .i64 16, .int .i64 5, 4⟩, ⟨.int .i64 17, .int .i64 9, 5⟩, ⟨.int .i64 18, .int .i64 14, 6⟩, ⟨.int .i64 19, .int .i64 20, 7⟩, ⟨.int .i64 32, .int .i64 4, 8⟩, ⟨.int .i64 33, .int .i64 11, 9⟩, ⟨.int .i64 34, .int .i64 16, 10⟩]) 11)) := h11
  generalize putM w10 w.heap.size (.map (#[⟨.int .i64 0, .int .i64 7, 0⟩, ⟨.int .i64 1, .int .i64 12, 1⟩, ⟨.int .i64 2, .int .i64 17, 2⟩, ⟨.int .i64 3, .int .i64 22, 3⟩, ⟨.int .i64 16, .int .i64 5, 4⟩, ⟨.int .i64 17, .int .i64 9, 5⟩, ⟨.int .i64 18, .int .i64 14, 6⟩, ⟨.int .i64 19, .int .i64 20, 7⟩, ⟨.int .i64 32, .int .i64 4, 8⟩, ⟨.int .i64 33, .int .i64 11, 9⟩, ⟨.int .i64 34, .int .i64 16, 10⟩]) 11) = w11 at *
  have h12 := ins_new 35 23 m11 (by rfl)
  have m12 := putM_at (w := w11) (.map (#[⟨.int .i64 0, .int .i64 7, 0⟩, ⟨.int .i64 1, .int .i64 12, 1⟩, ⟨.int .i64 2, .int .i64 17, 2⟩, ⟨.int .i64 3, .int .i64 22, 3⟩, ⟨.int .i64 16, .int .i64 5, 4⟩, ⟨.int .i64 17, .int .i64 9, 5⟩, ⟨.int .i64 18, .int .i64 14, 6⟩, ⟨.int .i64 19, .int .i64 20, 7⟩, ⟨.int .i64 32, .int .i64 4, 8⟩, ⟨.int .i64 33, .int .i64 11, 9⟩, ⟨.int .i64 34, .int .i64 16, 10⟩, ⟨.int .i64 35, .int .i64 23, 11⟩]) 12) (ltM m11)
  have b12 := putM_below (.map (#[⟨.int .i64 0, .int .i64 7, 0⟩, ⟨.int .i64 1, .int .i64 12, 1⟩, ⟨.int .i64 2, .int .i64 17, 2⟩, ⟨.int .i64 3, .int .i64 22, 3⟩, ⟨.int .i64 16, .int .i64 5, 4⟩, ⟨.int .i64 17, .int .i64 9, 5⟩, ⟨.int .i64 18, .int .i64 14, 6⟩, ⟨.int .i64 19, .int .i64 20, 7⟩, ⟨.int .i64 32, .int .i64 4, 8⟩, ⟨.int .i64 33, .int .i64 11, 9⟩, ⟨.int .i64 34, .int .i64 16, 10⟩, ⟨.int .i64 35, .int .i64 23, 11⟩]) 12) b11 (Nat.le_refl _)
  replace h12 : (Instr.mapUpdate 74 (.map (some w.heap.size)) (.int .i64 35) (.int .i64 23)).run Tryz.prog w11 = .ok () (putM w11 w.heap.size (.map (#[⟨.int .i64 0, .int .i64 7, 0⟩, ⟨.int .i64 1, .int .i64 12, 1⟩, ⟨.int .i64 2, .int .i64 17, 2⟩, ⟨.int .i64 3, .int .i64 22, 3⟩, ⟨.int .i64 16, .int .i64 5, 4⟩, ⟨.int .i64 17, .int .i64 9, 5⟩, ⟨.int .i64 18, .int .i64 14, 6⟩, ⟨.int .i64 19, .int .i64 20, 7⟩, ⟨.int .i64 32, .int .i64 4, 8⟩, ⟨.int .i64 33, .int .i64 11, 9⟩, ⟨.int .i64 34, .int .i64 16, 10⟩, ⟨.int .i64 35, .int .i64 23, 11⟩]) 12)) := h12
  generalize putM w11 w.heap.size (.map (#[⟨.int .i64 0, .int .i64 7, 0⟩, ⟨.int .i64 1, .int .i64 12, 1⟩, ⟨.int .i64 2, .int .i64 17, 2⟩, ⟨.int .i64 3, .int .i64 22, 3⟩, ⟨.int .i64 16, .int .i64 5, 4⟩, ⟨.int .i64 17, .int .i64 9, 5⟩, ⟨.int .i64 18, .int .i64 14, 6⟩, ⟨.int .i64 19, .int .i64 20, 7⟩, ⟨.int .i64 32, .int .i64 4, 8⟩, ⟨.int .i64 33, .int .i64 11, 9⟩, ⟨.int .i64 34, .int .i64 16, 10⟩, ⟨.int .i64 35, .int .i64 23, 11⟩]) 12) = w12 at *
  have h13 := ins_new 48 6 m12 (by rfl)
  have m13 := putM_at (w := w12) (.map (#[⟨.int .i64 0, .int .i64 7, 0⟩, ⟨.int .i64 1, .int .i64 12, 1⟩, ⟨.int .i64 2, .int .i64 17, 2⟩, ⟨.int .i64 3, .int .i64 22, 3⟩, ⟨.int .i64 16, .int .i64 5, 4⟩, ⟨.int .i64 17, .int .i64 9, 5⟩, ⟨.int .i64 18, .int .i64 14, 6⟩, ⟨.int .i64 19, .int .i64 20, 7⟩, ⟨.int .i64 32, .int .i64 4, 8⟩, ⟨.int .i64 33, .int .i64 11, 9⟩, ⟨.int .i64 34, .int .i64 16, 10⟩, ⟨.int .i64 35, .int .i64 23, 11⟩, ⟨.int .i64 48, .int .i64 6, 12⟩]) 13) (ltM m12)
  have b13 := putM_below (.map (#[⟨.int .i64 0, .int .i64 7, 0⟩, ⟨.int .i64 1, .int .i64 12, 1⟩, ⟨.int .i64 2, .int .i64 17, 2⟩, ⟨.int .i64 3, .int .i64 22, 3⟩, ⟨.int .i64 16, .int .i64 5, 4⟩, ⟨.int .i64 17, .int .i64 9, 5⟩, ⟨.int .i64 18, .int .i64 14, 6⟩, ⟨.int .i64 19, .int .i64 20, 7⟩, ⟨.int .i64 32, .int .i64 4, 8⟩, ⟨.int .i64 33, .int .i64 11, 9⟩, ⟨.int .i64 34, .int .i64 16, 10⟩, ⟨.int .i64 35, .int .i64 23, 11⟩, ⟨.int .i64 48, .int .i64 6, 12⟩]) 13) b12 (Nat.le_refl _)
  replace h13 : (Instr.mapUpdate 74 (.map (some w.heap.size)) (.int .i64 48) (.int .i64 6)).run Tryz.prog w12 = .ok () (putM w12 w.heap.size (.map (#[⟨.int .i64 0, .int .i64 7, 0⟩, ⟨.int .i64 1, .int .i64 12, 1⟩, ⟨.int .i64 2, .int .i64 17, 2⟩, ⟨.int .i64 3, .int .i64 22, 3⟩, ⟨.int .i64 16, .int .i64 5, 4⟩, ⟨.int .i64 17, .int .i64 9, 5⟩, ⟨.int .i64 18, .int .i64 14, 6⟩, ⟨.int .i64 19, .int .i64 20, 7⟩, ⟨.int .i64 32, .int .i64 4, 8⟩, ⟨.int .i64 33, .int .i64 11, 9⟩, ⟨.int .i64 34, .int .i64 16, 10⟩, ⟨.int .i64 35, .int .i64 23, 11⟩, ⟨.int .i64 48, .int .i64 6, 12⟩]) 13)) := h13
  generalize putM w12 w.heap.size (.map (#[⟨.int .i64 0, .int .i64 7, 0⟩, ⟨.int .i64 1, .int .i64 12, 1⟩, ⟨.int .i64 2, .int .i64 17, 2⟩, ⟨.int .i64 3, .int .i64 22, 3⟩, ⟨.int .i64 16, .int .i64 5, 4⟩, ⟨.int .i64 17, .int .i64 9, 5⟩, ⟨.int .i64 18, .int .i64 14, 6⟩, ⟨.int .i64 19, .int .i64 20, 7⟩, ⟨.int .i64 32, .int .i64 4, 8⟩, ⟨.int .i64 33, .int .i64 11, 9⟩, ⟨.int .i64 34, .int .i64 16, 10⟩, ⟨.int .i64 35, .int .i64 23, 11⟩, ⟨.int .i64 48, .int .i64 6, 12⟩]) 13) = w13 at *
  have h14 := ins_new 49 10 m13 (by rfl)
  have m14 := putM_at (w := w13) (.map (#[⟨.int .i64 0, .int .i64 7, 0⟩, ⟨.int .i64 1, .int .i64 12, 1⟩, ⟨.int .i64 2, .int .i64 17, 2⟩, ⟨.int .i64 3, .int .i64 22, 3⟩, ⟨.int .i64 16, .int .i64 5, 4⟩, ⟨.int .i64 17, .int .i64 9, 5⟩, ⟨.int .i64 18, .int .i64 14, 6⟩, ⟨.int .i64 19, .int .i64 20, 7⟩, ⟨.int .i64 32, .int .i64 4, 8⟩, ⟨.int .i64 33, .int .i64 11, 9⟩, ⟨.int .i64 34, .int .i64 16, 10⟩, ⟨.int .i64 35, .int .i64 23, 11⟩, ⟨.int .i64 48, .int .i64 6, 12⟩, ⟨.int .i64 49, .int .i64 10, 13⟩]) 14) (ltM m13)
  have b14 := putM_below (.map (#[⟨.int .i64 0, .int .i64 7, 0⟩, ⟨.int .i64 1, .int .i64 12, 1⟩, ⟨.int .i64 2, .int .i64 17, 2⟩, ⟨.int .i64 3, .int .i64 22, 3⟩, ⟨.int .i64 16, .int .i64 5, 4⟩, ⟨.int .i64 17, .int .i64 9, 5⟩, ⟨.int .i64 18, .int .i64 14, 6⟩, ⟨.int .i64 19, .int .i64 20, 7⟩, ⟨.int .i64 32, .int .i64 4, 8⟩, ⟨.int .i64 33, .int .i64 11, 9⟩, ⟨.int .i64 34, .int .i64 16, 10⟩, ⟨.int .i64 35, .int .i64 23, 11⟩, ⟨.int .i64 48, .int .i64 6, 12⟩, ⟨.int .i64 49, .int .i64 10, 13⟩]) 14) b13 (Nat.le_refl _)
  replace h14 : (Instr.mapUpdate 74 (.map (some w.heap.size)) (.int .i64 49) (.int .i64 10)).run Tryz.prog w13 = .ok () (putM w13 w.heap.size (.map (#[⟨.int .i64 0, .int .i64 7, 0⟩, ⟨.int .i64 1, .int .i64 12, 1⟩, ⟨.int .i64 2, .int .i64 17, 2⟩, ⟨.int .i64 3, .int .i64 22, 3⟩, ⟨.int .i64 16, .int .i64 5, 4⟩, ⟨.int .i64 17, .int .i64 9, 5⟩, ⟨.int .i64 18, .int .i64 14, 6⟩, ⟨.int .i64 19, .int .i64 20, 7⟩, ⟨.int .i64 32, .int .i64 4, 8⟩, ⟨.int .i64 33, .int .i64 11, 9⟩, ⟨.int .i64 34, .int .i64 16, 10⟩, ⟨.int .i64 35, .int .i64 23, 11⟩, ⟨.int .i64 48, .int .i64 6, 12⟩, ⟨.int .i64 49, .int .i64 10, 13⟩]) 14)) := h14
  generalize putM w13 w.heap.size (.map (#[⟨.int .i64 0, .int .i64 7, 0⟩, ⟨.int .i64 1, .int .i64 12, 1⟩, ⟨.int .i64 2, .int .i64 17, 2⟩, ⟨.int .i64 3, .int .i64 22, 3⟩, ⟨.int .i64 16, .int .i64 5, 4⟩, ⟨.int .i64 17, .int .i64 9, 5⟩, ⟨.int .i64 18, .int .i64 14, 6⟩, ⟨.int .i64 19, .int .i64 20, 7⟩, ⟨.int .i64 32, .int .i64 4, 8⟩, ⟨.int .i64 33, .int .i64 11, 9⟩, ⟨.int .i64 34, .int .i64 16, 10⟩, ⟨.int .i64 35, .int .i64 23, 11⟩, ⟨.int .i64 48, .int .i64 6, 12⟩, ⟨.int .i64 49, .int .i64 10, 13⟩]) 14) = w14 at *
  have h15 := ins_new 50 15 m14 (by rfl)
  have m15 := putM_at (w := w14) (.map (#[⟨.int .i64 0, .int .i64 7, 0⟩, ⟨.int .i64 1, .int .i64 12, 1⟩, ⟨.int .i64 2, .int .i64 17, 2⟩, ⟨.int .i64 3, .int .i64 22, 3⟩, ⟨.int .i64 16, .int .i64 5, 4⟩, ⟨.int .i64 17, .int .i64 9, 5⟩, ⟨.int .i64 18, .int .i64 14, 6⟩, ⟨.int .i64 19, .int .i64 20, 7⟩, ⟨.int .i64 32, .int .i64 4, 8⟩, ⟨.int .i64 33, .int .i64 11, 9⟩, ⟨.int .i64 34, .int .i64 16, 10⟩, ⟨.int .i64 35, .int .i64 23, 11⟩, ⟨.int .i64 48, .int .i64 6, 12⟩, ⟨.int .i64 49, .int .i64 10, 13⟩, ⟨.int .i64 50, .int .i64 15, 14⟩]) 15) (ltM m14)
  have b15 := putM_below (.map (#[⟨.int .i64 0, .int .i64 7, 0⟩, ⟨.int .i64 1, .int .i64 12, 1⟩, ⟨.int .i64 2, .int .i64 17, 2⟩, ⟨.int .i64 3, .int .i64 22, 3⟩, ⟨.int .i64 16, .int .i64 5, 4⟩, ⟨.int .i64 17, .int .i64 9, 5⟩, ⟨.int .i64 18, .int .i64 14, 6⟩, ⟨.int .i64 19, .int .i64 20, 7⟩, ⟨.int .i64 32, .int .i64 4, 8⟩, ⟨.int .i64 33, .int .i64 11, 9⟩, ⟨.int .i64 34, .int .i64 16, 10⟩, ⟨.int .i64 35, .int .i64 23, 11⟩, ⟨.int .i64 48, .int .i64 6, 12⟩, ⟨.int .i64 49, .int .i64 10, 13⟩, ⟨.int .i64 50, .int .i64 15, 14⟩]) 15) b14 (Nat.le_refl _)
  replace h15 : (Instr.mapUpdate 74 (.map (some w.heap.size)) (.int .i64 50) (.int .i64 15)).run Tryz.prog w14 = .ok () (putM w14 w.heap.size (.map (#[⟨.int .i64 0, .int .i64 7, 0⟩, ⟨.int .i64 1, .int .i64 12, 1⟩, ⟨.int .i64 2, .int .i64 17, 2⟩, ⟨.int .i64 3, .int .i64 22, 3⟩, ⟨.int .i64 16, .int .i64 5, 4⟩, ⟨.int .i64 17, .int .i64 9, 5⟩, ⟨.int .i64 18, .int .i64 14, 6⟩, ⟨.int .i64 19, .int .i64 20, 7⟩, ⟨.int .i64 32, .int .i64 4, 8⟩, ⟨.int .i64 33, .int .i64 11, 9⟩, ⟨.int .i64 34, .int .i64 16, 10⟩, ⟨.int .i64 35, .int .i64 23, 11⟩, ⟨.int .i64 48, .int .i64 6, 12⟩, ⟨.int .i64 49, .int .i64 10, 13⟩, ⟨.int .i64 50, .int .i64 15, 14⟩]) 15)) := h15
  generalize putM w14 w.heap.size (.map (#[⟨.int .i64 0, .int .i64 7, 0⟩, ⟨.int .i64 1, .int .i64 12, 1⟩, ⟨.int .i64 2, .int .i64 17, 2⟩, ⟨.int .i64 3, .int .i64 22, 3⟩, ⟨.int .i64 16, .int .i64 5, 4⟩, ⟨.int .i64 17, .int .i64 9, 5⟩, ⟨.int .i64 18, .int .i64 14, 6⟩, ⟨.int .i64 19, .int .i64 20, 7⟩, ⟨.int .i64 32, .int .i64 4, 8⟩, ⟨.int .i64 33, .int .i64 11, 9⟩, ⟨.int .i64 34, .int .i64 16, 10⟩, ⟨.int .i64 35, .int .i64 23, 11⟩, ⟨.int .i64 48, .int .i64 6, 12⟩, ⟨.int .i64 49, .int .i64 10, 13⟩, ⟨.int .i64 50, .int .i64 15, 14⟩]) 15) = w15 at *
  have h16 := ins_new 51 21 m15 (by rfl)
  have m16 := putM_at (w := w15) (.map (#[⟨.int .i64 0, .int .i64 7, 0⟩, ⟨.int .i64 1, .int .i64 12, 1⟩, ⟨.int .i64 2, .int .i64 17, 2⟩, ⟨.int .i64 3, .int .i64 22, 3⟩, ⟨.int .i64 16, .int .i64 5, 4⟩, ⟨.int .i64 17, .int .i64 9, 5⟩, ⟨.int .i64 18, .int .i64 14, 6⟩, ⟨.int .i64 19, .int .i64 20, 7⟩, ⟨.int .i64 32, .int .i64 4, 8⟩, ⟨.int .i64 33, .int .i64 11, 9⟩, ⟨.int .i64 34, .int .i64 16, 10⟩, ⟨.int .i64 35, .int .i64 23, 11⟩, ⟨.int .i64 48, .int .i64 6, 12⟩, ⟨.int .i64 49, .int .i64 10, 13⟩, ⟨.int .i64 50, .int .i64 15, 14⟩, ⟨.int .i64 51, .int .i64 21, 15⟩]) 16) (ltM m15)
  have b16 := putM_below (.map (#[⟨.int .i64 0, .int .i64 7, 0⟩, ⟨.int .i64 1, .int .i64 12, 1⟩, ⟨.int .i64 2, .int .i64 17, 2⟩, ⟨.int .i64 3, .int .i64 22, 3⟩, ⟨.int .i64 16, .int .i64 5, 4⟩, ⟨.int .i64 17, .int .i64 9, 5⟩, ⟨.int .i64 18, .int .i64 14, 6⟩, ⟨.int .i64 19, .int .i64 20, 7⟩, ⟨.int .i64 32, .int .i64 4, 8⟩, ⟨.int .i64 33, .int .i64 11, 9⟩, ⟨.int .i64 34, .int .i64 16, 10⟩, ⟨.int .i64 35, .int .i64 23, 11⟩, ⟨.int .i64 48, .int .i64 6, 12⟩, ⟨.int .i64 49, .int .i64 10, 13⟩, ⟨.int .i64 50, .int .i64 15, 14⟩, ⟨.int .i64 51, .int .i64 21, 15⟩]) 16) b15 (Nat.le_refl _)
  replace h16 : (Instr.mapUpdate 74 (.map (some w.heap.size)) (.int .i64 51) (.int .i64 21)).run Tryz.prog w15 = .ok () (putM w15 w.heap.size (.map (#[⟨.int .i64 0, .int .i64 7, 0⟩, ⟨.int .i64 1, .int .i64 12, 1⟩, ⟨.int .i64 2, .int .i64 17, 2⟩, ⟨.int .i64 3, .int .i64 22, 3⟩, ⟨.int .i64 16, .int .i64 5, 4⟩, ⟨.int .i64 17, .int .i64 9, 5⟩, ⟨.int .i64 18, .int .i64 14, 6⟩, ⟨.int .i64 19, .int .i64 20, 7⟩, ⟨.int .i64 32, .int .i64 4, 8⟩, ⟨.int .i64 33, .int .i64 11, 9⟩, ⟨.int .i64 34, .int .i64 16, 10⟩, ⟨.int .i64 35, .int .i64 23, 11⟩, ⟨.int .i64 48, .int .i64 6, 12⟩, ⟨.int .i64 49, .int .i64 10, 13⟩, ⟨.int .i64 50, .int .i64 15, 14⟩, ⟨.int .i64 51, .int .i64 21, 15⟩]) 16)) := h16
  generalize putM w15 w.heap.size (.map (#[⟨.int .i64 0, .int .i64 7, 0⟩, ⟨.int .i64 1, .int .i64 12, 1⟩, ⟨.int .i64 2, .int .i64 17, 2⟩, ⟨.int .i64 3, .int .i64 22, 3⟩, ⟨.int .i64 16, .int .i64 5, 4⟩, ⟨.int .i64 17, .int .i64 9, 5⟩, ⟨.int .i64 18, .int .i64 14, 6⟩, ⟨.int .i64 19, .int .i64 20, 7⟩, ⟨.int .i64 32, .int .i64 4, 8⟩, ⟨.int .i64 33, .int .i64 11, 9⟩, ⟨.int .i64 34, .int .i64 16, 10⟩, ⟨.int .i64 35, .int .i64 23, 11⟩, ⟨.int .i64 48, .int .i64 6, 12⟩, ⟨.int .i64 49, .int .i64 10, 13⟩, ⟨.int .i64 50, .int .i64 15, 14⟩, ⟨.int .i64 51, .int .i64 21, 15⟩]) 16) = w16 at *
  exact ⟨w0, w1, w2, w3, w4, w5, w6, w7, w8, w9, w10, w11, w12, w13, w14, w15, w16, rfl, h1, h2, h3, h4, h5, h6, h7, h8, h9, h10, h11, h12, h13, h14, h15, h16, m16, b16⟩

end Go.Proofs.YtlfeholphngilaaGreatDoor
