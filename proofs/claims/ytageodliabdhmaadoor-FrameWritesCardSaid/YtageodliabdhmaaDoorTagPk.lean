/- tag.Pack, tag.Unpack and the reference's, at every argument; nothing that was there is changed. -/
import Derived.Test.YtageodliabdhmaaDoorTagParts
import Derived.Laws.BitsAllLaws
namespace Go.Proofs.YtageodliabdhmaaDoor
open Go.RowKit

/-- A tag as a number. -/
def packN (t : Tg) : Int := 8192 * t.p + t.v + (if t.d then 4096 else 0)

theorem okT_all {t : Tg} (h : okT t = true) : 0 ≤ t.p ∧ t.p ≤ 7 ∧ 0 ≤ t.v ∧ t.v ≤ 4094 := by
  simp only [okT, Bool.and_eq_true, decide_eq_true_eq] at h
  exact ⟨h.1.1, h.1.2, h.2.1, h.2.2⟩

theorem pack_no (t : Tg) (h : okT t = false) (w : World) :
    Calls Tryd.prog 17 #[tagV t] w fun e w' => e = .returned (.tuple #[.int .i64 0, .iface 27 (.int .i64 1)]) ∧ Below w.heap.size w w' := by
  have B0 : Below w.heap.size w (w.alloc (.cells #[.bool t.s, .int .i64 t.p, .bool t.d, .int .i64 t.v] 39)) := (Below.refl _ _).alloc (Nat.le_refl _) _
  unfold tagV
  go_enter Tryd.func17, Tryd.ntmps17
  go_wp2_with fail
  refine (right_any t _).mono ?_
  rintro e w1 ⟨rfl, k1⟩
  rw [h]
  go_wp2
  go_ret2
  exact ⟨rfl, B0.trans (k1.mono (by simp))⟩

theorem refPack_no (t : Tg) (h : okT t = false) (w : World) :
    Calls Tryd.prog 10 #[tagV t] w fun e w' => e = .returned (.tuple #[.int .i64 0, .int .i64 1]) ∧ Below w.heap.size w w' := by
  have B0 : Below w.heap.size w (w.alloc (.cells #[.bool t.s, .int .i64 t.p, .bool t.d, .int .i64 t.v] 39)) := (Below.refl _ _).alloc (Nat.le_refl _) _
  unfold tagV
  go_enter Tryd.func10, Tryd.ntmps10
  go_wp2_with fail
  refine (refRight_any t _).mono ?_
  rintro e w1 ⟨rfl, k1⟩
  rw [h]
  go_wp2
  go_ret2
  exact ⟨rfl, B0.trans (k1.mono (by simp))⟩

/-- A tag lies in a block of its own. -/
def HasT (w : World) (B : Nat) (t : Tg) : Prop := w.heap[B]? = some (.cells #[.bool t.s, .int .i64 t.p, .bool t.d, .int .i64 t.v] 39 (0, 0))

theorem HasT.c0 {w : World} {B : Nat} {t : Tg} (h : HasT w B t) : w.cell? ⟨B, 0, none⟩ = some (.bool t.s) := (Joins.cell_of_block h 0).trans rfl
theorem HasT.c1 {w : World} {B : Nat} {t : Tg} (h : HasT w B t) : w.cell? ⟨B, 1, none⟩ = some (.int .i64 t.p) := (Joins.cell_of_block h 1).trans rfl
theorem HasT.c2 {w : World} {B : Nat} {t : Tg} (h : HasT w B t) : w.cell? ⟨B, 2, none⟩ = some (.bool t.d) := (Joins.cell_of_block h 2).trans rfl
theorem HasT.c3 {w : World} {B : Nat} {t : Tg} (h : HasT w B t) : w.cell? ⟨B, 3, none⟩ = some (.int .i64 t.v) := (Joins.cell_of_block h 3).trans rfl
theorem HasT.lt {w : World} {B : Nat} {t : Tg} (h : HasT w B t) : B < w.heap.size := World.block_lt_of_cell? w _ h.c0
theorem HasT.below {w w' : World} {B C : Nat} {t : Tg} (h : HasT w B t) (hb : Below C w w') (hC : B < C) : HasT w' B t := (hb.block _ hC).trans h
theorem HasT.drew {w : World} {B : Nat} {t : Tg} (h : HasT w B t) : HasT w.drew B t := h

theorem pack_yes (t : Tg) (h : okT t = true) (w : World) :
    Calls Tryd.prog 17 #[tagV t] w fun e w' => e = .returned (.tuple #[.int .i64 (packN t), .nilIface]) ∧ Below w.heap.size w w' := by
  obtain ⟨p0, p7, v0, v1⟩ := okT_all h
  have B0 : Below w.heap.size w (w.alloc (.cells #[.bool t.s, .int .i64 t.p, .bool t.d, .int .i64 t.v] 39)) := (Below.refl _ _).alloc (Nat.le_refl _) _
  have T0 : HasT (w.alloc (.cells #[.bool t.s, .int .i64 t.p, .bool t.d, .int .i64 t.v] 39)) w.heap.size t := heap_alloc_new w _
  obtain ⟨s, p, d, v⟩ := t
  unfold tagV
  go_enter Tryd.func17, Tryd.ntmps17
  go_wp2_with fail
  refine (right_any ⟨s, p, d, v⟩ _).mono ?_
  rintro e w1 ⟨rfl, k1⟩
  rw [h]
  have T1 := T0.below k1 T0.lt
  have c1 := T1.c1
  have c2 := T1.c2
  have c3 := T1.c3
  have B1 := B0.trans (k1.mono (by simp))
  clear k1 T0 T1 B0
  dsimp only at p0 p7 v0 v1 c1 c2 c3
  cases d
  all_goals (
    go_wp2
    go_ret2
    exact ⟨by simp [packN], B1⟩)

theorem refPack_yes (t : Tg) (h : okT t = true) (w : World) :
    Calls Tryd.prog 10 #[tagV t] w fun e w' => e = .returned (.tuple #[.int .i64 (packN t), .int .i64 0]) ∧ Below w.heap.size w w' := by
  obtain ⟨p0, p7, v0, v1⟩ := okT_all h
  have B0 : Below w.heap.size w (w.alloc (.cells #[.bool t.s, .int .i64 t.p, .bool t.d, .int .i64 t.v] 39)) := (Below.refl _ _).alloc (Nat.le_refl _) _
  have T0 : HasT (w.alloc (.cells #[.bool t.s, .int .i64 t.p, .bool t.d, .int .i64 t.v] 39)) w.heap.size t := heap_alloc_new w _
  obtain ⟨s, p, d, v⟩ := t
  unfold tagV
  go_enter Tryd.func10, Tryd.ntmps10
  go_wp2_with fail
  refine (refRight_any ⟨s, p, d, v⟩ _).mono ?_
  rintro e w1 ⟨rfl, k1⟩
  rw [h]
  have T1 := T0.below k1 T0.lt
  have c1 := T1.c1
  have c2 := T1.c2
  have c3 := T1.c3
  have B1 := B0.trans (k1.mono (by simp))
  clear k1 T0 T1 B0
  dsimp only at p0 p7 v0 v1 c1 c2 c3
  cases d
  all_goals (
    go_wp2
    go_ret2
    exact ⟨by simp [packN]; omega, B1⟩)

/-- A number as a tag. -/
def unT (s : Bool) (n : Nat) : Tg := ⟨s, (n / 8192 : Nat), n / 4096 % 2 == 1, (n % 4096 : Nat)⟩
/-- No tag. -/
def noT : Tg := ⟨false, 0, false, 0⟩


end Go.Proofs.YtageodliabdhmaaDoor
