/- tag.Text at every tag: its text, or ErrArg; nothing that was there is changed. -/
import Derived.Test.YtafmkgdpfjimkaaDoorTagSpec
import Derived.Test.YtafmkgdpfjimkaaDoorTab
import Derived.Deep.RegionHeld3
import Derived.Deep.DrawnRows
import Derived.Laws.IdiomStrings
namespace Go.Proofs.YtafmkgdpfjimkaaDoor
open Go.RowKit
attribute [local go_sem ↓] Go.wp_at_zero Go.wp_at_succ

theorem text_no (t : Tg) (h : okT t = false) (w : World) :
    Calls Tryd.prog 27 #[tagV t] w fun e w' => e = .returned (.tuple #[.string ⟨#[]⟩, .iface 24 (.int .i64 1)]) ∧ Below w.heap.size w w' := by
  have B0 : Below w.heap.size w (w.alloc (.cells #[.bool t.s, .int .i64 t.p, .bool t.d, .int .i64 t.v] 40)) := (Below.refl _ _).alloc (Nat.le_refl _) _
  unfold tagV
  go_enter Tryd.func27, Tryd.ntmps27
  go_wp2_with fail
  refine (right_any t _).mono ?_
  rintro e w1 ⟨rfl, k1⟩
  rw [h]
  go_wp2
  go_ret2
  exact ⟨rfl, B0.trans (k1.mono (by simp))⟩

set_option maxHeartbeats 1600000 in
theorem text_yes (t : Tg) (h : okT t = true) (w : World) (hT : HasTab w) :
    Calls Tryd.prog 27 #[tagV t] w fun e w' => e = .returned (.tuple #[.string ⟨(textT t).toArray⟩, .nilIface]) ∧ Below w.heap.size w w' := by
  obtain ⟨p0, p7, v0, v1⟩ := okT_all h
  have B0 : Below w.heap.size w (w.alloc (.cells #[.bool t.s, .int .i64 t.p, .bool t.d, .int .i64 t.v] 40)) := (Below.refl _ _).alloc (Nat.le_refl _) _
  have T0 : HasT (w.alloc (.cells #[.bool t.s, .int .i64 t.p, .bool t.d, .int .i64 t.v] 40)) w.heap.size t := heap_alloc_new w _
  have L1 : (Lib.itoa t.p).length ≤ 4 := itoa_length t.p p0 (by omega)
  have L2 : (Lib.itoa t.v).length ≤ 4 := itoa_length t.v v0 v1
  obtain ⟨hd, hhd⟩ : ∃ hd : List UInt8, hd = [if t.s then 115 else 99] := ⟨_, rfl⟩
  obtain ⟨mk, hmk⟩ : ∃ mk : List UInt8, mk = if t.d then [33] else [] := ⟨_, rfl⟩
  have M1 : mk.length ≤ 1 := by rw [hmk]; split <;> simp
  have M0 : hd.length = 1 := by rw [hhd]; rfl
  obtain ⟨y1, hy1⟩ : ∃ y1, y1 = hd ++ Lib.itoa t.p := ⟨_, rfl⟩
  obtain ⟨y2, hy2⟩ : ∃ y2, y2 = y1 ++ mk := ⟨_, rfl⟩
  obtain ⟨y3, hy3⟩ : ∃ y3, y3 = y2 ++ [46] := ⟨_, rfl⟩
  obtain ⟨y4, hy4⟩ : ∃ y4, y4 = y3 ++ Lib.itoa t.v := ⟨_, rfl⟩
  have z1 : y1.length ≤ 5 := by rw [hy1, List.length_append]; omega
  have z2 : y2.length ≤ 6 := by rw [hy2, List.length_append]; omega
  have z3 : y3.length ≤ 7 := by rw [hy3, List.length_append]; simp; omega
  have c1 : ∀ W, (Op.stringOp .add ⟨hd.toArray⟩ ⟨(Lib.itoa t.p).toArray⟩).run Tryd.prog W = .ok (.string ⟨y1.toArray⟩) W := fun W => by rw [hy1]; exact run_string_add_lists W _ _ (by omega) (by omega)
  have c2 : ∀ W, (Op.stringOp .add ⟨y1.toArray⟩ ⟨mk.toArray⟩).run Tryd.prog W = .ok (.string ⟨y2.toArray⟩) W := fun W => by rw [hy2]; exact run_string_add_lists W _ _ (by omega) (by omega)
  have c3 : ∀ W, (Op.stringOp .add ⟨y2.toArray⟩ ⟨#[46]⟩).run Tryd.prog W = .ok (.string ⟨y3.toArray⟩) W := fun W => by rw [hy3]; exact run_string_add_lists W _ [46] (by omega) (by decide)
  have c4 : ∀ W, (Op.stringOp .add ⟨y3.toArray⟩ ⟨(Lib.itoa t.v).toArray⟩).run Tryd.prog W = .ok (.string ⟨y4.toArray⟩) W := fun W => by rw [hy4]; exact run_string_add_lists W _ _ (by omega) (by omega)
  have HY : Hid (y4 = textT t) := by
    show _ = _
    rw [hy4, hy3, hy2, hy1, hhd, hmk]
    simp [textT]
  clear hy1 hy2 hy3 hy4
  obtain ⟨s, p, d, v⟩ := t
  dsimp only at p0 p7 v0 v1 hhd hmk
  unfold tagV
  go_enter Tryd.func27, Tryd.ntmps27
  go_wp2_with fail
  refine (right_any ⟨s, p, d, v⟩ _).mono ?_
  rintro e w1 ⟨rfl, k1⟩
  rw [h]
  have T1 := T0.below k1 T0.lt
  have q0 := T1.c0
  have q1 := T1.c1
  have q2 := T1.c2
  have q3 := T1.c3
  have B1 := B0.trans (k1.mono (by simp))
  have hT1 : HasTab w1 := hT.below B1
  clear k1 T0 T1 B0
  dsimp only at q0 q1 q2 q3
  have S1 : w1.cell? ⟨w.heap.size, 1, none⟩ = some (.int .i64 p) ∧ w1.cell? ⟨w.heap.size, 3, none⟩ = some (.int .i64 v) := ⟨q1, q3⟩
  have lt1 : w.heap.size < w1.heap.size := World.block_lt_of_cell? w1 _ q1
  cases s <;> cases d
  all_goals (
    simp only [Bool.false_eq_true, if_false, if_true] at hhd hmk
    subst hhd hmk
    go_wp2
    go_region_held3 (fun w' => w'.cell? ⟨w.heap.size, 1, none⟩ = some (.int .i64 p) ∧ w'.cell? ⟨w.heap.size, 3, none⟩ = some (.int .i64 v))
      (first
        | exact S3
        | exact S2
        | exact S1)
      (first
        | (go_at_call 39; (with_reducible refine (itoa_any p _ ?_ ?_ ?_).mono ?_); exact hT1; omega; omega; rintro e w2 ⟨rfl, k2⟩; have S2 : w2.cell? ⟨w.heap.size, 1, none⟩ = some (.int .i64 p) ∧ w2.cell? ⟨w.heap.size, 3, none⟩ = some (.int .i64 v) := ⟨(k2.cell (p := ⟨w.heap.size, 1, none⟩) lt1).trans S1.1, (k2.cell (p := ⟨w.heap.size, 3, none⟩) lt1).trans S1.2⟩; have hT2 : HasTab w2 := HasTab.below (w := w1.drew) hT1 k2; have lt2 : w.heap.size < w2.heap.size := Nat.lt_of_lt_of_le lt1 k2.size)
        | (go_at_call 39; (with_reducible refine (itoa_any v _ ?_ ?_ ?_).mono ?_); exact hT2; omega; omega; rintro e w3 ⟨rfl, k3⟩; have S3 : w3.cell? ⟨w.heap.size, 1, none⟩ = some (.int .i64 p) ∧ w3.cell? ⟨w.heap.size, 3, none⟩ = some (.int .i64 v) := ⟨(k3.cell (p := ⟨w.heap.size, 1, none⟩) lt2).trans S2.1, (k3.cell (p := ⟨w.heap.size, 3, none⟩) lt2).trans S2.2⟩))
    all_goals (
      go_wp2
      go_ret2
      exact ⟨by rw [← HY.out]; rfl, (B1.drew.trans (k2.mono B1.size)).trans (k3.mono (Nat.le_trans B1.size k2.size))⟩))
end Go.Proofs.YtafmkgdpfjimkaaDoor
