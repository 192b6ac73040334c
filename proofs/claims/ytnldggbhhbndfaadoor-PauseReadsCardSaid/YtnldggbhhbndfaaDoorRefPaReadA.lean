/- The reference reads a message of chapter 7, some of its ways. -/
import Derived.Test.YtnldggbhhbndfaaDoorBlk
import Derived.Test.YtnldggbhhbndfaaDoorPaDoor
namespace Go.Proofs.YtnldggbhhbndfaaDoor
open Go.RowKit
attribute [local go_sem ↓] Go.wp_at_zero Go.wp_at_succ
set_option linter.unusedSimpArgs false
set_option linter.unusedVariables false
set_option maxRecDepth 100000

set_option maxHeartbeats 3200000 in
theorem refPaRead_num_bad (s : ByteArray) (w : World) (hs : s.size ≤ 300) (h1 : ¬ 2 ≤ s.size) :
    Calls Tryd.prog 28 #[.string s] w fun r w' => r = .returned (.tuple #[.agg (paC zPa), .agg (ftC 7 0)]) ∧ Below w.heap.size w w' := by
  have hmf : ∀ (fn : Fn) (first cap : Array Value) (w : World), (Instr.makeFunc fn first cap).run Tryd.prog w = .ok (.func fn first cap) w := fun _ _ _ _ => rfl
  have HA0 := (Blk.new w 54 (paC zPa)).alloc (.cells (ftC 0 0) 40)
  have HE0 : Blk ((w.alloc (.cells (paC zPa) 54)).alloc (.cells (ftC 0 0) 40)) (w.heap.size + 1) 40 (ftC 0 0) := by
    have h := Blk.new (w.alloc (.cells (paC zPa) 54)) 40 (ftC 0 0)
    simpa using h
  have B0 : Below w.heap.size w ((w.alloc (.cells (paC zPa) 54)).alloc (.cells (ftC 0 0) 40)) := ((Below.refl _ _).alloc (Nat.le_refl _) _).alloc (by simp) _
  go_enter_defers Tryd.func28, Tryd.ntmps28
  go_upto_region 1 with (first | (refine alloc_blk 54 (paC zPa) (by rfl) rfl Tryd.paZero ?_) | (refine alloc_blk 40 (ftC 0 0) (by rfl) rfl Tryd.ftZero ?_))
  generalize (w.alloc (.cells (paC zPa) 54)).alloc (.cells (ftC 0 0) 40) = w1 at *
  go_wp2_with fail
  refine (good_any _).mono ?_
  rintro e w2 ⟨rfl, b2⟩
  have HA2 := HA0.kept b2
  have HE2 := HE0.kept b2
  have B2 := B0.trans (b2.mono B0.size)
  clear HA0 HE0 B0 b2
  go_upto_region 4 with (first | (refine store_blk (k := 0) 40 (.agg (ftC 0 (-1))) (ftC 0 (-1)) (by rfl) rfl rfl rfl HE2 (by kernel_rfl) (by exact Nat.le_refl 2) rfl rfl (fun w3 HE3 b3 g3 => ?_)))
  have HA3 := HA2.grown g3 (by simp)
  have B3 : Below w.heap.size w w3 := B2.trans (b3.mono (by omega))
  clear HA2 HE2 B2 b3 g3
  have HA4 := HA3.alloc (.cells #[.string s, .int .i64 (0 : Nat), .int .i64 (0 : Nat)] 74)
  have HE4 := HE3.alloc (.cells #[.string s, .int .i64 (0 : Nat), .int .i64 (0 : Nat)] 74)
  have HC4 : Cur (w3.alloc (.cells #[.string s, .int .i64 (0 : Nat), .int .i64 (0 : Nat)] 74)) w3.heap.size s 0 0 := Blk.new w3 74 _
  have B4 := B3.alloc B3.size (.cells #[.string s, .int .i64 (0 : Nat), .int .i64 (0 : Nat)] 74)
  have hc4 : w.heap.size + 1 < w3.heap.size := HE3.lt
  clear HA3 HE3 B3
  go_upto_region 5 with (refine build_blk (t := 74) #[.string s, .int .i64 (0 : Nat), .int .i64 (0 : Nat)] (by rfl) rfl (by kernel_rfl) ?_)
  generalize w3.alloc (.cells #[.string s, .int .i64 0, .int .i64 0] 74) = w4 at *
  generalize w3.heap.size = c at *
  have hEc : w.heap.size + 1 < c := hc4
  clear hc4
  go_wp2_with fail
  refine (cnum_bad HC4 2 (by omega) (by omega) (by decide) (by omega)).mono ?_
  rintro e w5 ⟨rfl, b5⟩
  have HA5 := HA4.kept b5
  have HE5 := HE4.kept b5
  have B5 := B4.trans (b5.mono B4.size)
  go_wp2
  exact pa_door_bad rfl rfl (by decide) HA5 HE5 (by omega) (Nat.le_refl _) (by omega) B5

set_option maxHeartbeats 3200000 in
theorem refPaRead_other (s : ByteArray) (w : World) (hs : s.size ≤ 300) (h1 : 2 ≤ s.size) (n : Nat) (hn : ((beN ((s.data.toList.drop 0).take 2) : Nat) : Int) = (n : Int)) (hn1 : ((n : Int) == 1) = false) (hn257 : ((n : Int) == 257) = false) :
    Calls Tryd.prog 28 #[.string s] w fun r w' => r = .returned (.tuple #[.agg (paC zPa), .agg (ftC 3 0)]) ∧ Below w.heap.size w w' := by
  have hmf : ∀ (fn : Fn) (first cap : Array Value) (w : World), (Instr.makeFunc fn first cap).run Tryd.prog w = .ok (.func fn first cap) w := fun _ _ _ _ => rfl
  have HA0 := (Blk.new w 54 (paC zPa)).alloc (.cells (ftC 0 0) 40)
  have HE0 : Blk ((w.alloc (.cells (paC zPa) 54)).alloc (.cells (ftC 0 0) 40)) (w.heap.size + 1) 40 (ftC 0 0) := by
    have h := Blk.new (w.alloc (.cells (paC zPa) 54)) 40 (ftC 0 0)
    simpa using h
  have B0 : Below w.heap.size w ((w.alloc (.cells (paC zPa) 54)).alloc (.cells (ftC 0 0) 40)) := ((Below.refl _ _).alloc (Nat.le_refl _) _).alloc (by simp) _
  go_enter_defers Tryd.func28, Tryd.ntmps28
  go_upto_region 1 with (first | (refine alloc_blk 54 (paC zPa) (by rfl) rfl Tryd.paZero ?_) | (refine alloc_blk 40 (ftC 0 0) (by rfl) rfl Tryd.ftZero ?_))
  generalize (w.alloc (.cells (paC zPa) 54)).alloc (.cells (ftC 0 0) 40) = w1 at *
  go_wp2_with fail
  refine (good_any _).mono ?_
  rintro e w2 ⟨rfl, b2⟩
  have HA2 := HA0.kept b2
  have HE2 := HE0.kept b2
  have B2 := B0.trans (b2.mono B0.size)
  clear HA0 HE0 B0 b2
  go_upto_region 4 with (first | (refine store_blk (k := 0) 40 (.agg (ftC 0 (-1))) (ftC 0 (-1)) (by rfl) rfl rfl rfl HE2 (by kernel_rfl) (by exact Nat.le_refl 2) rfl rfl (fun w3 HE3 b3 g3 => ?_)))
  have HA3 := HA2.grown g3 (by simp)
  have B3 : Below w.heap.size w w3 := B2.trans (b3.mono (by omega))
  clear HA2 HE2 B2 b3 g3
  have HA4 := HA3.alloc (.cells #[.string s, .int .i64 (0 : Nat), .int .i64 (0 : Nat)] 74)
  have HE4 := HE3.alloc (.cells #[.string s, .int .i64 (0 : Nat), .int .i64 (0 : Nat)] 74)
  have HC4 : Cur (w3.alloc (.cells #[.string s, .int .i64 (0 : Nat), .int .i64 (0 : Nat)] 74)) w3.heap.size s 0 0 := Blk.new w3 74 _
  have B4 := B3.alloc B3.size (.cells #[.string s, .int .i64 (0 : Nat), .int .i64 (0 : Nat)] 74)
  have hc4 : w.heap.size + 1 < w3.heap.size := HE3.lt
  clear HA3 HE3 B3
  go_upto_region 5 with (refine build_blk (t := 74) #[.string s, .int .i64 (0 : Nat), .int .i64 (0 : Nat)] (by rfl) rfl (by kernel_rfl) ?_)
  generalize w3.alloc (.cells #[.string s, .int .i64 0, .int .i64 0] 74) = w4 at *
  generalize w3.heap.size = c at *
  have hEc : w.heap.size + 1 < c := hc4
  clear hc4
  go_wp2_with fail
  refine (cnum_ok HC4 2 (by decide) (by omega) (by omega)).mono ?_
  rintro e w5 ⟨rfl, HC5, g5⟩
  have HA5 := HA4.grown g5 (by simp; omega)
  have HE5 := HE4.grown g5 (by simp; omega)
  have B5 := grown_belowA B4 g5 B4.size (by omega)
  clear HC4 HA4 HE4 B4 g5
  rw [hn]
  go_wp2_with fail
  refine (throw_any HC5 3 0 (by decide) (by decide)).mono ?_
  rintro e w6 ⟨rfl, rfl⟩
  go_wp2
  exact pa_door_bad rfl rfl (by decide) HA5 HE5 (by omega) (Nat.le_refl _) (by omega) B5

set_option maxHeartbeats 3200000 in
theorem refPaRead_all_bad (s : ByteArray) (w : World) (hs : s.size ≤ 300) (h1 : 2 ≤ s.size) (h2 : ¬ 4 ≤ s.size) (hn : ((beN ((s.data.toList.drop 0).take 2) : Nat) : Int) = 1) :
    Calls Tryd.prog 28 #[.string s] w fun r w' => r = .returned (.tuple #[.agg (paC zPa), .agg (ftC 7 2)]) ∧ Below w.heap.size w w' := by
  have hmf : ∀ (fn : Fn) (first cap : Array Value) (w : World), (Instr.makeFunc fn first cap).run Tryd.prog w = .ok (.func fn first cap) w := fun _ _ _ _ => rfl
  have HA0 := (Blk.new w 54 (paC zPa)).alloc (.cells (ftC 0 0) 40)
  have HE0 : Blk ((w.alloc (.cells (paC zPa) 54)).alloc (.cells (ftC 0 0) 40)) (w.heap.size + 1) 40 (ftC 0 0) := by
    have h := Blk.new (w.alloc (.cells (paC zPa) 54)) 40 (ftC 0 0)
    simpa using h
  have B0 : Below w.heap.size w ((w.alloc (.cells (paC zPa) 54)).alloc (.cells (ftC 0 0) 40)) := ((Below.refl _ _).alloc (Nat.le_refl _) _).alloc (by simp) _
  go_enter_defers Tryd.func28, Tryd.ntmps28
  go_upto_region 1 with (first | (refine alloc_blk 54 (paC zPa) (by rfl) rfl Tryd.paZero ?_) | (refine alloc_blk 40 (ftC 0 0) (by rfl) rfl Tryd.ftZero ?_))
  generalize (w.alloc (.cells (paC zPa) 54)).alloc (.cells (ftC 0 0) 40) = w1 at *
  go_wp2_with fail
  refine (good_any _).mono ?_
  rintro e w2 ⟨rfl, b2⟩
  have HA2 := HA0.kept b2
  have HE2 := HE0.kept b2
  have B2 := B0.trans (b2.mono B0.size)
  clear HA0 HE0 B0 b2
  go_upto_region 4 with (first | (refine store_blk (k := 0) 40 (.agg (ftC 0 (-1))) (ftC 0 (-1)) (by rfl) rfl rfl rfl HE2 (by kernel_rfl) (by exact Nat.le_refl 2) rfl rfl (fun w3 HE3 b3 g3 => ?_)))
  have HA3 := HA2.grown g3 (by simp)
  have B3 : Below w.heap.size w w3 := B2.trans (b3.mono (by omega))
  clear HA2 HE2 B2 b3 g3
  have HA4 := HA3.alloc (.cells #[.string s, .int .i64 (0 : Nat), .int .i64 (0 : Nat)] 74)
  have HE4 := HE3.alloc (.cells #[.string s, .int .i64 (0 : Nat), .int .i64 (0 : Nat)] 74)
  have HC4 : Cur (w3.alloc (.cells #[.string s, .int .i64 (0 : Nat), .int .i64 (0 : Nat)] 74)) w3.heap.size s 0 0 := Blk.new w3 74 _
  have B4 := B3.alloc B3.size (.cells #[.string s, .int .i64 (0 : Nat), .int .i64 (0 : Nat)] 74)
  have hc4 : w.heap.size + 1 < w3.heap.size := HE3.lt
  clear HA3 HE3 B3
  go_upto_region 5 with (refine build_blk (t := 74) #[.string s, .int .i64 (0 : Nat), .int .i64 (0 : Nat)] (by rfl) rfl (by kernel_rfl) ?_)
  generalize w3.alloc (.cells #[.string s, .int .i64 0, .int .i64 0] 74) = w4 at *
  generalize w3.heap.size = c at *
  have hEc : w.heap.size + 1 < c := hc4
  clear hc4
  go_wp2_with fail
  refine (cnum_ok HC4 2 (by decide) (by omega) (by omega)).mono ?_
  rintro e w5 ⟨rfl, HC5, g5⟩
  have HA5 := HA4.grown g5 (by simp; omega)
  have HE5 := HE4.grown g5 (by simp; omega)
  have B5 := grown_belowA B4 g5 B4.size (by omega)
  clear HC4 HA4 HE4 B4 g5
  rw [hn]
  go_wp2_with fail
  refine (cnum_bad HC5 2 (by omega) (by omega) (by decide) (by omega)).mono ?_
  rintro e w6 ⟨rfl, b6⟩
  have HA6 := HA5.kept b6
  have HE6 := HE5.kept b6
  have B6 := B5.trans (b6.mono B5.size)
  go_wp2
  exact pa_door_bad rfl rfl (by decide) HA6 HE6 (by omega) (Nat.le_refl _) (by omega) B6

set_option maxHeartbeats 3200000 in
theorem refPaRead_class_bad (s : ByteArray) (w : World) (hs : s.size ≤ 300) (h1 : 2 ≤ s.size) (h2 : ¬ 4 ≤ s.size) (hn : ((beN ((s.data.toList.drop 0).take 2) : Nat) : Int) = 257) :
    Calls Tryd.prog 28 #[.string s] w fun r w' => r = .returned (.tuple #[.agg (paC zPa), .agg (ftC 7 2)]) ∧ Below w.heap.size w w' := by
  have hmf : ∀ (fn : Fn) (first cap : Array Value) (w : World), (Instr.makeFunc fn first cap).run Tryd.prog w = .ok (.func fn first cap) w := fun _ _ _ _ => rfl
  have HA0 := (Blk.new w 54 (paC zPa)).alloc (.cells (ftC 0 0) 40)
  have HE0 : Blk ((w.alloc (.cells (paC zPa) 54)).alloc (.cells (ftC 0 0) 40)) (w.heap.size + 1) 40 (ftC 0 0) := by
    have h := Blk.new (w.alloc (.cells (paC zPa) 54)) 40 (ftC 0 0)
    simpa using h
  have B0 : Below w.heap.size w ((w.alloc (.cells (paC zPa) 54)).alloc (.cells (ftC 0 0) 40)) := ((Below.refl _ _).alloc (Nat.le_refl _) _).alloc (by simp) _
  go_enter_defers Tryd.func28, Tryd.ntmps28
  go_upto_region 1 with (first | (refine alloc_blk 54 (paC zPa) (by rfl) rfl Tryd.paZero ?_) | (refine alloc_blk 40 (ftC 0 0) (by rfl) rfl Tryd.ftZero ?_))
  generalize (w.alloc (.cells (paC zPa) 54)).alloc (.cells (ftC 0 0) 40) = w1 at *
  go_wp2_with fail
  refine (good_any _).mono ?_
  rintro e w2 ⟨rfl, b2⟩
  have HA2 := HA0.kept b2
  have HE2 := HE0.kept b2
  have B2 := B0.trans (b2.mono B0.size)
  clear HA0 HE0 B0 b2
  go_upto_region 4 with (first | (refine store_blk (k := 0) 40 (.agg (ftC 0 (-1))) (ftC 0 (-1)) (by rfl) rfl rfl rfl HE2 (by kernel_rfl) (by exact Nat.le_refl 2) rfl rfl (fun w3 HE3 b3 g3 => ?_)))
  have HA3 := HA2.grown g3 (by simp)
  have B3 : Below w.heap.size w w3 := B2.trans (b3.mono (by omega))
  clear HA2 HE2 B2 b3 g3
  have HA4 := HA3.alloc (.cells #[.string s, .int .i64 (0 : Nat), .int .i64 (0 : Nat)] 74)
  have HE4 := HE3.alloc (.cells #[.string s, .int .i64 (0 : Nat), .int .i64 (0 : Nat)] 74)
  have HC4 : Cur (w3.alloc (.cells #[.string s, .int .i64 (0 : Nat), .int .i64 (0 : Nat)] 74)) w3.heap.size s 0 0 := Blk.new w3 74 _
  have B4 := B3.alloc B3.size (.cells #[.string s, .int .i64 (0 : Nat), .int .i64 (0 : Nat)] 74)
  have hc4 : w.heap.size + 1 < w3.heap.size := HE3.lt
  clear HA3 HE3 B3
  go_upto_region 5 with (refine build_blk (t := 74) #[.string s, .int .i64 (0 : Nat), .int .i64 (0 : Nat)] (by rfl) rfl (by kernel_rfl) ?_)
  generalize w3.alloc (.cells #[.string s, .int .i64 0, .int .i64 0] 74) = w4 at *
  generalize w3.heap.size = c at *
  have hEc : w.heap.size + 1 < c := hc4
  clear hc4
  go_wp2_with fail
  refine (cnum_ok HC4 2 (by decide) (by omega) (by omega)).mono ?_
  rintro e w5 ⟨rfl, HC5, g5⟩
  have HA5 := HA4.grown g5 (by simp; omega)
  have HE5 := HE4.grown g5 (by simp; omega)
  have B5 := grown_belowA B4 g5 B4.size (by omega)
  clear HC4 HA4 HE4 B4 g5
  rw [hn]
  go_wp2_with fail
  refine (cnum_bad HC5 2 (by omega) (by omega) (by decide) (by omega)).mono ?_
  rintro e w6 ⟨rfl, b6⟩
  have HA6 := HA5.kept b6
  have HE6 := HE5.kept b6
  have B6 := B5.trans (b6.mono B5.size)
  go_wp2
  exact pa_door_bad rfl rfl (by decide) HA6 HE6 (by omega) (Nat.le_refl _) (by omega) B6

end Go.Proofs.YtnldggbhhbndfaaDoor
