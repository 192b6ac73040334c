/- A fact on package pause: a message is written and read. -/
import Derived.Test.YtnldggbhhbndfaaDoorBlk
import Derived.Test.YtnldggbhhbndfaaDoorPaMath
import Derived.Test.YtnldggbhhbndfaaDoorPaWrite
import Derived.Test.YtnldggbhhbndfaaDoorPaLong
import Derived.Test.YtnldggbhhbndfaaDoorAsked
namespace Go.Proofs.YtnldggbhhbndfaaDoor
open Go.RowKit
attribute [local go_sem ↓] Go.wp_at_zero Go.wp_at_succ
set_option linter.unusedSimpArgs false
set_option linter.unusedVariables false
set_option maxRecDepth 100000

def pq : Pa := ⟨true, 2, fun i => if i = 0 then 5 else if i = 1 then 6 else 0⟩
theorem pq_right : paRight pq = true := by decide
theorem paWrite_any (p : Pa) (W : World) (hr : paRight p = true) : Calls Tryd.prog 25 #[.agg (paC p)] W fun e w' => e = .returned (.tuple #[.string ⟨(paL p).toArray⟩, .nilIface]) ∧ Below W.heap.size W w' := by
  cases hp : p.pfc with
  | true => exact paWrite_t p W hp hr
  | false => exact paWrite_f p W hp hr
theorem paL_size (p : Pa) : (⟨(paL p).toArray⟩ : ByteArray).size = if p.pfc = true then 20 else 4 := by
  show (paL p).toArray.size = _
  rw [List.size_toArray, show (paL p).length = _ from bwL_len _]
  unfold paNums
  split <;> rfl
/-- What is written is read. -/
theorem pa_again (p : Pa) (hr : paRight p = true) (W : World) : Calls Tryd.prog 29 #[.string ⟨(paL p).toArray⟩] W fun e w' => e = .returned (.tuple #[.agg (paC p), .nilIface]) ∧ Below W.heap.size W w' := by
  obtain ⟨e1, e2, e3⟩ := pa_back p hr
  refine (paRead_any ⟨(paL p).toArray⟩ W (by rw [paL_size]; split <;> omega)).mono fun e w' h => ?_
  rw [show (⟨(paL p).toArray⟩ : ByteArray).data.toList = paL p from rfl, e1, e2] at h
  exact reads_ok h

set_option maxHeartbeats 1600000 in
theorem paused_any (w : World) : Calls Tryd.prog 30 #[] w fun e w' => e = .returned (.bool true) ∧ Below w.heap.size w w' := by
  obtain ⟨u, hu⟩ : ∃ u : ByteArray, u = ⟨(paL pq).toArray⟩ := ⟨_, rfl⟩
  have HW : Hid (∀ W, Calls Tryd.prog 25 #[.agg (paC pq)] W fun e w' => e = .returned (.tuple #[.string u, .nilIface]) ∧ Below W.heap.size W w') := fun W => by
    rw [hu]; exact paWrite_any pq W pq_right
  have HRd : Hid (∀ W, Calls Tryd.prog 29 #[.string u] W fun e w' => e = .returned (.tuple #[.agg (paC pq), .nilIface]) ∧ Below W.heap.size W w') := fun W => by
    rw [hu]; exact pa_again pq pq_right W
  have hL1 : Hid (∀ W, Calls Tryd.prog 31 #[.agg (paC pq), .int .i64 1] W fun e w' => e = .returned (.int .i64 6) ∧ Below W.heap.size W w') := fun W => by
    have h := long_any pq 1 W (by decide) (by decide)
    rw [show paLong pq 1 = 6 by decide] at h
    exact h
  have hL0 : Hid (∀ W, Calls Tryd.prog 31 #[.agg (paC pq), .int .i64 0] W fun e w' => e = .returned (.int .i64 0) ∧ Below W.heap.size W w') := fun W => by
    have h := long_any pq 0 W (by decide) (by decide)
    rw [show paLong pq 0 = 0 by decide] at h
    exact h
  have h20 : ((u.size : Int) == 20) = true := by rw [hu, paL_size]; rfl
  clear hu
  have HZ := Blk.new w 54 (paC zPa)
  have B0 : Below w.heap.size w (w.alloc (.cells (paC zPa) 54)) := (Below.refl _ _).alloc (Nat.le_refl _) _
  go_enter Tryd.func30, Tryd.ntmps30
  go_upto_region 2 with (first | (refine build_blk (t := 52) (c8 pq.t) (by rfl) rfl (by kernel_rfl) ?_) | (refine build_blk (t := 54) (paC pq) (by rfl) rfl (by kernel_rfl) ?_) | (refine alloc_blk 54 (paC zPa) (by rfl) rfl Tryd.paZero ?_) | (refine store_blk (k := 0) 54 (.agg (paC pq)) (paC pq) (by rfl) rfl rfl rfl HZ (by kernel_rfl) (by exact Nat.le_refl 10) rfl rfl (fun w1 HA1 b1 g1 => ?_)))
  have B1 := B0.trans b1
  clear HZ B0 b1 g1
  go_wp2_with (refine load_blk (k := 0) 54 (paC pq) (by rfl) rfl rfl HA1 (by kernel_rfl) (by kernel_rfl) rfl ?_)
  refine (HW.out _).mono ?_
  rintro e w2 ⟨rfl, b2⟩
  have HA2 := HA1.kept b2
  have B2 := B1.trans (b2.mono B1.size)
  clear HA1 B1 b2 HW
  go_wp2_with fail
  refine (HRd.out _).mono ?_
  rintro e w3 ⟨rfl, b3⟩
  have HA3 := (HA2.kept b3).alloc (.cells (paC zPa) 54)
  have B3a := B2.trans (b3.mono B2.size)
  have B3 := B3a.alloc B3a.size (.cells (paC zPa) 54)
  have HZ3 := Blk.new w3 54 (paC zPa)
  have hlt : w.heap.size < w3.heap.size := (HA2.kept b3).lt
  clear HA2 B2 b3 HRd B3a
  go_upto_region 4 with (first | (refine alloc_blk 54 (paC zPa) (by rfl) rfl Tryd.paZero ?_) | (refine store_blk (k := 0) 54 (.agg (paC pq)) (paC pq) (by rfl) rfl rfl rfl HZ3 (by kernel_rfl) (by exact Nat.le_refl 10) rfl rfl (fun w4 HB4 b4 g4 => ?_)))
  have HA4 := HA3.grown g4 (by simp; omega)
  have B4 := B3.trans (b4.mono (Nat.le_of_lt hlt))
  clear HA3 HZ3 B3 b4 g4
  go_wp2_with (first | (refine load_blk (k := 0) 54 (paC pq) (by rfl) rfl rfl HA4 (by kernel_rfl) (by kernel_rfl) rfl ?_) | (refine load_blk (k := 0) 54 (paC pq) (by rfl) rfl rfl HB4 (by kernel_rfl) (by kernel_rfl) rfl ?_) | (refine eq_blk .eql 54 (paC pq) (paC pq) true (by rfl) rfl (by first | exact Or.inl rfl | exact Or.inr rfl) rfl rfl Tryd.paGuard ((by have h := run_eql_pa pq pq; rw [eqPa_refl] at h; exact h _)) ?_))
  refine (hL1.out _).mono ?_
  rintro e w5 ⟨rfl, b5⟩
  have HA5 := HA4.kept b5
  have B5 := B4.trans (b5.mono B4.size)
  clear HA4 HB4 B4 b5
  go_wp2_with (refine load_blk (k := 0) 54 (paC pq) (by rfl) rfl rfl HA5 (by kernel_rfl) (by kernel_rfl) rfl ?_)
  refine (hL0.out _).mono ?_
  rintro e w6 ⟨rfl, b6⟩
  have B6 := B5.trans (b6.mono B5.size)
  go_wp2
  go_ret
  exact ⟨rfl, B6⟩

end Go.Proofs.YtnldggbhhbndfaaDoor
