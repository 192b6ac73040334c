/- The reference's FrameHead: a map literal of two numbers, laid, written, read. -/
import Derived.Test.YtmlnkellfbobcaaFr
import Derived.Maps.Own
import Derived.Deep.Cut
namespace Go.Proofs.Ytmlnkellfbobcaa
open Go.RowKit Go.MapKept Go.ChangeMaps

/-- The same world, with another object in one block. -/
def putO (w : World) (B : Nat) (o : Obj) : World := { w with heap := w.heap.setIfInBounds B o }

theorem putO_at {w : World} {B : Nat} (o : Obj) (h : B < w.heap.size) : (putO w B o).heap[B]? = some o := by simp [putO, h]
theorem putO_other {w : World} {B i : Nat} (o : Obj) (h : B ≠ i) : (putO w B o).heap[i]? = w.heap[i]? := by
  show (w.heap.setIfInBounds B o)[i]? = _
  rw [Array.getElem?_setIfInBounds_ne h]
theorem putO_below {C : Nat} {w0 w : World} {B : Nat} (o : Obj) (h : Below C w0 w) (hB : C ≤ B) : Below C w0 (putO w B o) :=
  ⟨h.os, h.tape, h.output, by simp [putO]; exact h.size, fun i hi => by
    rw [putO_other o (by omega)]
    exact h.block i hi⟩

theorem ltO {w : World} {B : Nat} {o : Obj} (h : w.heap[B]? = some o) : B < w.heap.size := (Array.getElem?_eq_some_iff.1 h).1

theorem key_int (x : Int) : IsKey (.int .i64) (.int .i64 x) := rfl

theorem insK0 {w : World} {B : Nat} (h : w.heap[B]? = some (.map #[] 0)) :
    (Instr.mapUpdate 32 (.map (some B)) (.int .i64 2) (.int .i64 3)).run Try.prog w = .ok () (putO w B (.map #[⟨.int .i64 2, .int .i64 3, 0⟩] 1)) := by
  have h1 : Instr.findNow (.int .i64) (.int .i64 2) (#[] : Array MapEntry).toList 0 = some none := rfl
  simp [Instr.mapUpdate, run_underlying Try.underlying32, MapKept.run_getObj_map h, run_checkKey Try.underlying3 (key_int 2), run_findKey Try.underlying3 h1, MapKept.run_setObj_map _ h, Result.andThen, putO]

theorem insK1 {w : World} {B : Nat} (h : w.heap[B]? = some (.map #[⟨.int .i64 2, .int .i64 3, 0⟩] 1)) :
    (Instr.mapUpdate 32 (.map (some B)) (.int .i64 3) (.int .i64 8)).run Try.prog w = .ok () (putO w B (.map #[⟨.int .i64 2, .int .i64 3, 0⟩, ⟨.int .i64 3, .int .i64 8, 1⟩] 2)) := by
  have h1 : Instr.findNow (.int .i64) (.int .i64 3) (#[⟨.int .i64 2, .int .i64 3, 0⟩] : Array MapEntry).toList 0 = some none := by rfl
  simp [Instr.mapUpdate, run_underlying Try.underlying32, MapKept.run_getObj_map h, run_checkKey Try.underlying3 (key_int 3), run_findKey Try.underlying3 h1, MapKept.run_setObj_map _ h, Result.andThen, putO]

theorem lookK {w : World} {B : Nat} (k : Int) (h : w.heap[B]? = some (.map #[⟨.int .i64 2, .int .i64 3, 0⟩, ⟨.int .i64 3, .int .i64 8, 1⟩] 2)) :
    (Instr.lookup 32 (.map (some B)) (.int .i64 k) false).run Try.prog w = .ok (.int .i64 (hdI k)) w := by
  obtain ⟨i0, hi, hz0, hz1, hz2⟩ := info_parts (show (Try.prog.info? 3).map (fun i => (i.zero, i.size, i.bytes)) = some (some (.int .i64 0), 1, 8) by kernel_rfl)
  by_cases h2 : k = 2
  · subst h2
    have h1 : Instr.findNow (.int .i64) (.int .i64 2) (#[⟨.int .i64 2, .int .i64 3, 0⟩, ⟨.int .i64 3, .int .i64 8, 1⟩] : Array MapEntry).toList 0 = some (some (0, .int .i64 3)) := by rfl
    simp [Instr.lookup, run_underlying Try.underlying32, MapKept.run_getObj_map h, run_checkKey Try.underlying3 (key_int 2), run_findKey Try.underlying3 h1, Result.andThen, hdI]
  · by_cases h3 : k = 3
    · subst h3
      have h1 : Instr.findNow (.int .i64) (.int .i64 3) (#[⟨.int .i64 2, .int .i64 3, 0⟩, ⟨.int .i64 3, .int .i64 8, 1⟩] : Array MapEntry).toList 0 = some (some (1, .int .i64 8)) := by rfl
      simp [Instr.lookup, run_underlying Try.underlying32, MapKept.run_getObj_map h, run_checkKey Try.underlying3 (key_int 3), run_findKey Try.underlying3 h1, Result.andThen, hdI]
    · have h1 : Instr.findNow (.int .i64) (.int .i64 k) (#[⟨.int .i64 2, .int .i64 3, 0⟩, ⟨.int .i64 3, .int .i64 8, 1⟩] : Array MapEntry).toList 0 = some none := by
        have e2 : (k == 2) = false := beq_eq_false_iff_ne.2 h2
        have e3 : (k == 3) = false := beq_eq_false_iff_ne.2 h3
        simp [Instr.findNow, Instr.sameNow, e2, e3]
      simp [Instr.lookup, run_underlying Try.underlying32, MapKept.run_getObj_map h, run_checkKey Try.underlying3 (key_int k), run_findKey Try.underlying3 h1, Result.andThen, hdI, h2, h3, zeroValue, typeInfo, hi, hz0]

/-- What the literal leaves of a world: a new block; the rest is as it was. -/
theorem lit_world (w : World) : ∃ w1 w2 w3 : World, w1 = w.alloc (.map #[] 0) ∧
    (Instr.mapUpdate 32 (.map (some w.heap.size)) (.int .i64 2) (.int .i64 3)).run Try.prog w1 = .ok () w2 ∧
    (Instr.mapUpdate 32 (.map (some w.heap.size)) (.int .i64 3) (.int .i64 8)).run Try.prog w2 = .ok () w3 ∧
    (∀ k, (Instr.lookup 32 (.map (some w.heap.size)) (.int .i64 k) false).run Try.prog w3 = .ok (.int .i64 (hdI k)) w3) ∧ Below w.heap.size w w2 ∧ Below w.heap.size w w3 := by
  have m1 : (w.alloc (.map #[] 0)).heap[w.heap.size]? = some (.map #[] 0) := heap_alloc_new w _
  have m2 := putO_at (w := w.alloc (.map #[] 0)) (.map #[⟨.int .i64 2, .int .i64 3, 0⟩] 1) (ltO m1)
  have m3 := putO_at (w := putO (w.alloc (.map #[] 0)) w.heap.size (.map #[⟨.int .i64 2, .int .i64 3, 0⟩] 1)) (.map #[⟨.int .i64 2, .int .i64 3, 0⟩, ⟨.int .i64 3, .int .i64 8, 1⟩] 2) (ltO m2)
  have b1 : Below w.heap.size w (w.alloc (.map #[] 0)) := (Below.refl _ _).alloc (Nat.le_refl _) _
  have b2 := putO_below (.map #[⟨.int .i64 2, .int .i64 3, 0⟩] 1) b1 (Nat.le_refl _)
  exact ⟨_, _, _, rfl, insK0 m1, insK1 m2, fun k => lookK k m3, b2, putO_below _ b2 (Nat.le_refl _)⟩

set_option maxHeartbeats 1600000 in
theorem refHead_any (f : Fr) (w : World) (hs : f.tl.length ≤ 20) :
    Calls Try.prog 7 #[frV f] w fun e w' => e = .returned (.int .i64 (14 + 4 * (f.tl.length : Int) + hdI f.k)) ∧ Below w.heap.size w w' := by
  have hb0 : Below w.heap.size w (w.alloc (.cells (frC f) 26)) := (Below.refl _ _).alloc (Nat.le_refl _) _
  have hF0 := HasF.new w f
  have hd := hdI_le f.k
  have hmm := @run_makeMap Try.prog
  unfold frV frC at *
  go_enter Try.func7, Try.ntmps7
  go_upto_region 1 with (fail)
  generalize w.alloc (.cells #[.int .u8 (f.d 0), .int .u8 (f.d 1), .int .u8 (f.d 2), .int .u8 (f.d 3), .int .u8 (f.d 4), .int .u8 (f.d 5), .int .u8 (f.s 0), .int .u8 (f.s 1), .int .u8 (f.s 2), .int .u8 (f.s 3), .int .u8 (f.s 4), .int .u8 (f.s 5), .slice f.ta f.tl.length f.tc, .int .i64 f.k, .int .i64 f.t, .int .i64 f.da, .int .i64 f.sa, .int .i64 f.ct, .int .i64 f.ou, .int .i64 f.pi, .string f.bo] 26) = w0 at *
  obtain ⟨w1, w2, w3, h1, h2, h3, h4, b2, b3⟩ := lit_world w0
  have c12 : w0.cell? ⟨w.heap.size, 12, none⟩ = some (.slice f.ta f.tl.length f.tc) := (hF0.c 12).trans rfl
  have hF3 : HasF w3 _ f := hF0.below b3 hF0.lt
  have c13 : w3.cell? ⟨w.heap.size, 13, none⟩ = some (.int .i64 f.k) := (hF3.c 13).trans rfl
  have hb3 : Below w.heap.size w w3 := hb0.trans (b3.mono hb0.size)
  have h4k := h4 f.k
  rw [h1] at h2
  clear h1 h4 hF0 hF3 hb0 b2 b3
  go_wp2
  go_ret
  refine ⟨?_, hb3⟩
  rfl

end Go.Proofs.Ytmlnkellfbobcaa
