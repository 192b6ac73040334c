/- The reference reads a message of chapter 7, some of its ways. -/
import Derived.Test.YtnldggbhhbndfaaDoorBlk
import Derived.Test.YtnldggbhhbndfaaDoorPaDoor
namespace Go.Proofs.YtnldggbhhbndfaaDoor
open Go.RowKit
attribute [local go_sem ↓] Go.wp_at_zero Go.wp_at_succ
set_option linter.unusedSimpArgs false
set_option linter.unusedVariables false
set_option maxRecDepth 100000

set_option maxHeartbeats 3200000 in
theorem refPaRead_class_big (s : ByteArray) (w : World) (hs : s.size ≤ 300) (h2 : 4 ≤ s.size) (v : Nat) (hv : ((beN ((s.data.toList.drop 2).take 2) : Nat) : Int) = (v : Int)) (hn : ((beN ((s.data.toList.drop 0).take 2) : Nat) : Int) = 257) (hb : 255 < v) :
    Calls Tryd.prog 28 #[.string s] w fun r w' => r = .returned (.tuple #[.agg (paC zPa), .agg (ftC 2 2)]) ∧ Below w.heap.size w w' := by
  have hmf : ∀ (fn : Fn) (first cap : Array Value) (w : World), (Instr.makeFunc fn first cap).run Tryd.prog w = .ok (.func fn first cap) w := fun _ _ _ _ => rfl
  have HA0 := (Blk.new w 54 (paC zPa)).alloc (.cells (ftC 0 0) 40)
  have HE0 : Blk ((w.alloc (.cells (paC zPa) 54)).alloc (.cells (ftC 0 0) 40)) (w.heap.size + 1) 40 (ftC 0 0) := by
    have h := Blk.new (w.alloc (.cells (paC zPa) 54)) 40 (ftC 0 0)
    simpa using h
  have B0 : Below w.heap.size w ((w.alloc (.cells (paC zPa) 54)).alloc (.cells (ftC 0 0) 40)) := ((Below.refl _ _).alloc (Nat.le_refl _) _).alloc (by simp) _
  go_enter_defers Tryd.func28, Tryd.ntmps28
  go_upto_region 1 with (first | (refine alloc_blk 54 (paC zPa) (by rfl) rfl Tryd.paZero ?_) | (refine alloc_blk 40 (ftC 0 0) (by rfl) rfl Tryd.ftZero ?_))
  generalize (w.alloc (.cells (paC zPa) 54)).alloc (.cells (ftC 0 0) 40) = w1 at *
  go_wp2_with fail
  refine (good_any _).mono ?_
  rintro e w2 ⟨rfl, b2⟩
  have HA2 := HA0.kept b2
  have HE2 := HE0.kept b2
  have B2 := B0.trans (b2.mono B0.size)
  clear HA0 HE0 B0 b2
  go_upto_region 4 with (first | (refine store_blk (k := 0) 40 (.agg (ftC 0 (-1))) (ftC 0 (-1)) (by rfl) rfl rfl rfl HE2 (by kernel_rfl) (by exact Nat.le_refl 2) rfl rfl (fun w3 HE3 b3 g3 => ?_)))
  have HA3 := HA2.grown g3 (by simp)
  have B3 : Below w.heap.size w w3 := B2.trans (b3.mono (by omega))
  clear HA2 HE2 B2 b3 g3
  have HA4 := HA3.alloc (.cells #[.string s, .int .i64 (0 : Nat), .int .i64 (0 : Nat)] 74)
  have HE4 := HE3.alloc (.cells #[.string s, .int .i64 (0 : Nat), .int .i64 (0 : Nat)] 74)
  have HC4 : Cur (w3.alloc (.cells #[.string s, .int .i64 (0 : Nat), .int .i64 (0 : Nat)] 74)) w3.heap.size s 0 0 := Blk.new w3 74 _
  have B4 := B3.alloc B3.size (.cells #[.string s, .int .i64 (0 : Nat), .int .i64 (0 : Nat)] 74)
  have hc4 : w.heap.size + 1 < w3.heap.size := HE3.lt
  clear HA3 HE3 B3
  go_upto_region 5 with (refine build_blk (t := 74) #[.string s, .int .i64 (0 : Nat), .int .i64 (0 : Nat)] (by rfl) rfl (by kernel_rfl) ?_)
  generalize w3.alloc (.cells #[.string s, .int .i64 0, .int .i64 0] 74) = w4 at *
  generalize w3.heap.size = c at *
  have hEc : w.heap.size + 1 < c := hc4
  clear hc4
  go_wp2_with fail
  refine (cnum_ok HC4 2 (by decide) (by omega) (by omega)).mono ?_
  rintro e w5 ⟨rfl, HC5, g5⟩
  have HA5 := HA4.grown g5 (by simp; omega)
  have HE5 := HE4.grown g5 (by simp; omega)
  have B5 := grown_belowA B4 g5 B4.size (by omega)
  clear HC4 HA4 HE4 B4 g5
  rw [hn]
  go_wp2_with fail
  refine (cnum_ok HC5 2 (by decide) (by omega) (by omega)).mono ?_
  rintro e w6 ⟨rfl, HC6, g6⟩
  have HA6 := HA5.grown g6 (by simp; omega)
  have HE6 := HE5.grown g6 (by simp; omega)
  have B6 := grown_belowA B5 g6 B5.size (by omega)
  clear HC5 HA5 HE5 B5 g6
  rw [hv]
  go_upto_region 11 with (first | (refine store_blk (k := 0) 4 (.bool true) (paC ⟨true, 0, fun _ => 0⟩) (by rfl) rfl rfl rfl HA6 (by kernel_rfl) (by exact (by decide : 0 + 1 ≤ 10)) rfl rfl (fun w7 HA7 b7 g7 => ?_)) | (refine store_blk (k := 1) 3 (.int .i64 (v : Int)) (paC ⟨true, (v : Int), fun _ => 0⟩) (by rfl) rfl rfl rfl HA7 (by kernel_rfl) (by exact (by decide : 1 + 1 ≤ 10)) rfl rfl (fun w8 HA8 b8 g8 => ?_)))
  have HC8 : Cur w8 c s 4 0 := Blk.grown (Blk.grown HC6 g7 (by simp; omega)) g8 (by simp; omega)
  have HE8 := (HE6.grown g7 (by simp)).grown g8 (by simp)
  have B8 := (B6.trans b7).trans b8
  have c1 := HA8.cv 1 (.int .i64 (v : Int)) rfl
  clear HC6 HA6 HE6 B6 g7 b7 HA7 g8 b8
  have d : decide ((255 : Int) < (v : Int)) = true := decide_eq_true (by omega)
  go_wp2_with fail
  refine (throw_any HC8 2 2 (by decide) (by decide)).mono ?_
  rintro e w9 ⟨rfl, rfl⟩
  go_wp2
  exact pa_door_bad rfl rfl (by decide) HA8 HE8 (by omega) (Nat.le_refl _) (by omega) B8

set_option maxHeartbeats 3200000 in
theorem refPaRead_class_cut (s : ByteArray) (w : World) (hs : s.size ≤ 300) (h2 : 4 ≤ s.size) (v : Nat) (hv : ((beN ((s.data.toList.drop 2).take 2) : Nat) : Int) = (v : Int)) (hn : ((beN ((s.data.toList.drop 0).take 2) : Nat) : Int) = 257) (hb : v ≤ 255) (m : Nat) (hm8 : m < 8) (hm1 : 4 + 2 * m ≤ s.size) (hm2 : ¬ 4 + 2 * (m + 1) ≤ s.size) :
    Calls Tryd.prog 28 #[.string s] w fun r w' => r = .returned (.tuple #[.agg (paC zPa), .agg (ftC 7 ((4 + 2 * m : Nat) : Int))]) ∧ Below w.heap.size w w' := by
  have hmf : ∀ (fn : Fn) (first cap : Array Value) (w : World), (Instr.makeFunc fn first cap).run Tryd.prog w = .ok (.func fn first cap) w := fun _ _ _ _ => rfl
  have HA0 := (Blk.new w 54 (paC zPa)).alloc (.cells (ftC 0 0) 40)
  have HE0 : Blk ((w.alloc (.cells (paC zPa) 54)).alloc (.cells (ftC 0 0) 40)) (w.heap.size + 1) 40 (ftC 0 0) := by
    have h := Blk.new (w.alloc (.cells (paC zPa) 54)) 40 (ftC 0 0)
    simpa using h
  have B0 : Below w.heap.size w ((w.alloc (.cells (paC zPa) 54)).alloc (.cells (ftC 0 0) 40)) := ((Below.refl _ _).alloc (Nat.le_refl _) _).alloc (by simp) _
  go_enter_defers Tryd.func28, Tryd.ntmps28
  go_upto_region 1 with (first | (refine alloc_blk 54 (paC zPa) (by rfl) rfl Tryd.paZero ?_) | (refine alloc_blk 40 (ftC 0 0) (by rfl) rfl Tryd.ftZero ?_))
  generalize (w.alloc (.cells (paC zPa) 54)).alloc (.cells (ftC 0 0) 40) = w1 at *
  go_wp2_with fail
  refine (good_any _).mono ?_
  rintro e w2 ⟨rfl, b2⟩
  have HA2 := HA0.kept b2
  have HE2 := HE0.kept b2
  have B2 := B0.trans (b2.mono B0.size)
  clear HA0 HE0 B0 b2
  go_upto_region 4 with (first | (refine store_blk (k := 0) 40 (.agg (ftC 0 (-1))) (ftC 0 (-1)) (by rfl) rfl rfl rfl HE2 (by kernel_rfl) (by exact Nat.le_refl 2) rfl rfl (fun w3 HE3 b3 g3 => ?_)))
  have HA3 := HA2.grown g3 (by simp)
  have B3 : Below w.heap.size w w3 := B2.trans (b3.mono (by omega))
  clear HA2 HE2 B2 b3 g3
  have HA4 := HA3.alloc (.cells #[.string s, .int .i64 (0 : Nat), .int .i64 (0 : Nat)] 74)
  have HE4 := HE3.alloc (.cells #[.string s, .int .i64 (0 : Nat), .int .i64 (0 : Nat)] 74)
  have HC4 : Cur (w3.alloc (.cells #[.string s, .int .i64 (0 : Nat), .int .i64 (0 : Nat)] 74)) w3.heap.size s 0 0 := Blk.new w3 74 _
  have B4 := B3.alloc B3.size (.cells #[.string s, .int .i64 (0 : Nat), .int .i64 (0 : Nat)] 74)
  have hc4 : w.heap.size + 1 < w3.heap.size := HE3.lt
  clear HA3 HE3 B3
  go_upto_region 5 with (refine build_blk (t := 74) #[.string s, .int .i64 (0 : Nat), .int .i64 (0 : Nat)] (by rfl) rfl (by kernel_rfl) ?_)
  generalize w3.alloc (.cells #[.string s, .int .i64 0, .int .i64 0] 74) = w4 at *
  generalize w3.heap.size = c at *
  have hEc : w.heap.size + 1 < c := hc4
  clear hc4
  go_wp2_with fail
  refine (cnum_ok HC4 2 (by decide) (by omega) (by omega)).mono ?_
  rintro e w5 ⟨rfl, HC5, g5⟩
  have HA5 := HA4.grown g5 (by simp; omega)
  have HE5 := HE4.grown g5 (by simp; omega)
  have B5 := grown_belowA B4 g5 B4.size (by omega)
  clear HC4 HA4 HE4 B4 g5
  rw [hn]
  go_wp2_with fail
  refine (cnum_ok HC5 2 (by decide) (by omega) (by omega)).mono ?_
  rintro e w6 ⟨rfl, HC6, g6⟩
  have HA6 := HA5.grown g6 (by simp; omega)
  have HE6 := HE5.grown g6 (by simp; omega)
  have B6 := grown_belowA B5 g6 B5.size (by omega)
  clear HC5 HA5 HE5 B5 g6
  rw [hv]
  go_upto_region 11 with (first | (refine store_blk (k := 0) 4 (.bool true) (paC ⟨true, 0, fun _ => 0⟩) (by rfl) rfl rfl rfl HA6 (by kernel_rfl) (by exact (by decide : 0 + 1 ≤ 10)) rfl rfl (fun w7 HA7 b7 g7 => ?_)) | (refine store_blk (k := 1) 3 (.int .i64 (v : Int)) (paC ⟨true, (v : Int), fun _ => 0⟩) (by rfl) rfl rfl rfl HA7 (by kernel_rfl) (by exact (by decide : 1 + 1 ≤ 10)) rfl rfl (fun w8 HA8 b8 g8 => ?_)))
  have HC8 : Cur w8 c s 4 0 := Blk.grown (Blk.grown HC6 g7 (by simp; omega)) g8 (by simp; omega)
  have HE8 := (HE6.grown g7 (by simp)).grown g8 (by simp)
  have B8 := (B6.trans b7).trans b8
  have c1 := HA8.cv 1 (.int .i64 (v : Int)) rfl
  clear HC6 HA6 HE6 B6 g7 b7 HA7 g8 b8
  have d : decide ((255 : Int) < (v : Int)) = false := decide_eq_false (by omega)
  go_wp2_with fail
  clear d c1
  go_loopw [32] (fun i wr => ∃ k : Nat, k ≤ m ∧ i = .int .i64 k ∧ Cur wr c s (4 + 2 * k) 0 ∧ Blk wr w.heap.size 54 (paC ⟨true, (v : Int), fun j => if j < k then (fun j => (beN ((s.data.toList.drop (4 + 2 * j)).take 2) : Int)) j else 0⟩) ∧ Blk wr (w.heap.size + 1) 40 (ftC 0 (-1)) ∧ Below w.heap.size w wr) (fun i _ => 8 - (intOf i).toNat)
  case atStart => exact ⟨0, by omega, rfl, HC8, HA8, HE8, B8⟩
  case round =>
    obtain ⟨k, hk, rfl, HC9, HA9, HE9, B9⟩ := hrel
    by_cases hlt : k < m
    · have hki : decide ((k : Int) < 8) = true := decide_eq_true (by omega)
      have hki0 : (0 : Int) ≤ (k : Int) := by omega
      have hki1 : (k : Int) < 8 := by omega
      go_wp2_with fail
      refine (cnum_ok HC9 2 (by decide) (by omega) (by omega)).mono ?_
      rintro e w10 ⟨rfl, HC10, g10⟩
      have HA10 := HA9.grown g10 (by simp; omega)
      have HE10 := HE9.grown g10 (by simp; omega)
      have B10 := grown_belowA B9 g10 B9.size (by omega)
      clear HC9 HA9 HE9 B9 g10
      have HC10k : Cur w10 c s (4 + 2 * (k + 1)) 0 := by rw [show 4 + 2 * (k + 1) = 4 + 2 * k + 2 by omega]; exact HC10
      go_wp2_with (refine store_blk (k := 2 + k) 3 (.int .i64 ((fun j => (beN ((s.data.toList.drop (4 + 2 * j)).take 2) : Int)) k)) (paC ⟨true, (v : Int), fun j => if j < k + 1 then (fun j => (beN ((s.data.toList.drop (4 + 2 * j)).take 2) : Int)) j else 0⟩) (by rfl) rfl rfl rfl HA10 (by kernel_rfl) (by show 2 + k + 1 ≤ 10; omega) rfl (paCset true (v : Int) (fun j => (beN ((s.data.toList.drop (4 + 2 * j)).take 2) : Int)) k (by omega)) (fun w11 HA11 b11 g11 => ?_))
      have HC11 : Cur w11 c s (4 + 2 * (k + 1)) 0 := Blk.grown HC10k g11 (by simp; omega)
      have HE11 := HE10.grown g11 (by simp)
      have B11 := B10.trans b11
      go_roundw
      case rel => exact ⟨k + 1, by omega, by go_num, HC11, HA11, HE11, B11⟩
      case measure => simp [intOf]; omega
    · obtain rfl : k = m := by omega
      have hki : decide ((k : Int) < 8) = true := decide_eq_true (by omega)
      have hki0 : (0 : Int) ≤ (k : Int) := by omega
      have hki1 : (k : Int) < 8 := by omega
      go_wp2_with fail
      refine (cnum_bad HC9 2 (by omega) (by omega) (by decide) (by omega)).mono ?_
      rintro e w10 ⟨rfl, b10⟩
      have HA10 := HA9.kept b10
      have HE10 := HE9.kept b10
      have B10 := B9.trans (b10.mono B9.size)
      go_wp2
      exact pa_door_bad rfl rfl (by decide) HA10 HE10 (by omega) (Nat.le_refl _) (by omega) B10

end Go.Proofs.YtnldggbhhbndfaaDoor
