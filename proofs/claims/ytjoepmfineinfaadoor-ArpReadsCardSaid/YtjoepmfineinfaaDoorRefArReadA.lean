/- The reference reads a message of chapter 6, some of its ways. -/
import Derived.Test.YtjoepmfineinfaaDoorBlk
import Derived.Test.YtjoepmfineinfaaDoorArDoor
namespace Go.Proofs.YtjoepmfineinfaaDoor
open Go.RowKit
attribute [local go_sem ↓] Go.wp_at_zero Go.wp_at_succ
set_option linter.unusedSimpArgs false
set_option linter.unusedVariables false
set_option maxRecDepth 100000

set_option maxHeartbeats 3200000 in
theorem refArRead_want_bad (s : ByteArray) (w : World) (hs : s.size ≤ 300) (h1 : ¬ 6 ≤ s.size) :
    Calls Tryd.prog 8 #[.string s] w fun r w' => r = .returned (.tuple #[.agg (arC zAr), .agg (ftC 7 0)]) ∧ Below w.heap.size w w' := by
  have hmf : ∀ (fn : Fn) (first cap : Array Value) (w : World), (Instr.makeFunc fn first cap).run Tryd.prog w = .ok (.func fn first cap) w := fun _ _ _ _ => rfl
  have HA0 := (Blk.new w 26 (arC zAr)).alloc (.cells (ftC 0 0) 29)
  have HE0 : Blk ((w.alloc (.cells (arC zAr) 26)).alloc (.cells (ftC 0 0) 29)) (w.heap.size + 1) 29 (ftC 0 0) := by
    have h := Blk.new (w.alloc (.cells (arC zAr) 26)) 29 (ftC 0 0)
    simpa using h
  have B0 : Below w.heap.size w ((w.alloc (.cells (arC zAr) 26)).alloc (.cells (ftC 0 0) 29)) := ((Below.refl _ _).alloc (Nat.le_refl _) _).alloc (by simp) _
  go_enter_defers Tryd.func8, Tryd.ntmps8
  go_upto_region 1 with (first | (refine alloc_blk 26 (arC zAr) (by rfl) rfl Tryd.arZero ?_) | (refine alloc_blk 29 (ftC 0 0) (by rfl) rfl Tryd.ftZero ?_))
  generalize (w.alloc (.cells (arC zAr) 26)).alloc (.cells (ftC 0 0) 29) = w1 at *
  go_wp2_with fail
  refine (good_any _).mono ?_
  rintro e w2 ⟨rfl, b2⟩
  have HA2 := HA0.kept b2
  have HE2 := HE0.kept b2
  have B2 := B0.trans (b2.mono B0.size)
  clear HA0 HE0 B0 b2
  go_upto_region 4 with (first | (refine store_blk (k := 0) 29 (.agg (ftC 0 (-1))) (ftC 0 (-1)) (by rfl) rfl rfl rfl HE2 (by kernel_rfl) (by exact Nat.le_refl 2) rfl rfl (fun w3 HE3 b3 g3 => ?_)))
  have HA3 := HA2.grown g3 (by simp)
  have B3 : Below w.heap.size w w3 := B2.trans (b3.mono (by omega))
  clear HA2 HE2 B2 b3 g3
  have HA4 := HA3.alloc (.cells #[.string s, .int .i64 (0 : Nat), .int .i64 (0 : Nat)] 69)
  have HE4 := HE3.alloc (.cells #[.string s, .int .i64 (0 : Nat), .int .i64 (0 : Nat)] 69)
  have HC4 : Cur (w3.alloc (.cells #[.string s, .int .i64 (0 : Nat), .int .i64 (0 : Nat)] 69)) w3.heap.size s 0 0 := Blk.new w3 69 _
  have B4 := B3.alloc B3.size (.cells #[.string s, .int .i64 (0 : Nat), .int .i64 (0 : Nat)] 69)
  have hc4 : w.heap.size + 1 < w3.heap.size := HE3.lt
  clear HA3 HE3 B3
  go_upto_region 5 with (refine build_blk (t := 69) #[.string s, .int .i64 (0 : Nat), .int .i64 (0 : Nat)] (by rfl) rfl (by kernel_rfl) ?_)
  generalize w3.alloc (.cells #[.string s, .int .i64 0, .int .i64 0] 69) = w4 at *
  generalize w3.heap.size = c at *
  have hEc : w.heap.size + 1 < c := hc4
  clear hc4
  go_wp2_with fail
  refine (want_bad HC4 (t := ⟨#[0, 1, 8, 0, 6, 4]⟩) (by rw [show (⟨#[0, 1, 8, 0, 6, 4]⟩ : ByteArray).size = 6 from rfl]; omega) (by omega) (by decide) (by omega)).mono ?_
  rintro e w5 ⟨rfl, b5⟩
  have HA5 := HA4.kept b5
  have HE5 := HE4.kept b5
  have B5 := B4.trans (b5.mono B4.size)
  go_wp2
  exact ar_door_bad rfl rfl (by decide) HA5 HE5 (by omega) (Nat.le_refl _) (by omega) B5

set_option maxHeartbeats 3200000 in
theorem refArRead_want_form (s : ByteArray) (w : World) (hs : s.size ≤ 300) (h1 : 6 ≤ s.size) (ht : (s.data.toList.drop 0).take (⟨#[0, 1, 8, 0, 6, 4]⟩ : ByteArray).size ≠ (⟨#[0, 1, 8, 0, 6, 4]⟩ : ByteArray).data.toList) :
    Calls Tryd.prog 8 #[.string s] w fun r w' => r = .returned (.tuple #[.agg (arC zAr), .agg (ftC 3 0)]) ∧ Below w.heap.size w w' := by
  have hmf : ∀ (fn : Fn) (first cap : Array Value) (w : World), (Instr.makeFunc fn first cap).run Tryd.prog w = .ok (.func fn first cap) w := fun _ _ _ _ => rfl
  have HA0 := (Blk.new w 26 (arC zAr)).alloc (.cells (ftC 0 0) 29)
  have HE0 : Blk ((w.alloc (.cells (arC zAr) 26)).alloc (.cells (ftC 0 0) 29)) (w.heap.size + 1) 29 (ftC 0 0) := by
    have h := Blk.new (w.alloc (.cells (arC zAr) 26)) 29 (ftC 0 0)
    simpa using h
  have B0 : Below w.heap.size w ((w.alloc (.cells (arC zAr) 26)).alloc (.cells (ftC 0 0) 29)) := ((Below.refl _ _).alloc (Nat.le_refl _) _).alloc (by simp) _
  go_enter_defers Tryd.func8, Tryd.ntmps8
  go_upto_region 1 with (first | (refine alloc_blk 26 (arC zAr) (by rfl) rfl Tryd.arZero ?_) | (refine alloc_blk 29 (ftC 0 0) (by rfl) rfl Tryd.ftZero ?_))
  generalize (w.alloc (.cells (arC zAr) 26)).alloc (.cells (ftC 0 0) 29) = w1 at *
  go_wp2_with fail
  refine (good_any _).mono ?_
  rintro e w2 ⟨rfl, b2⟩
  have HA2 := HA0.kept b2
  have HE2 := HE0.kept b2
  have B2 := B0.trans (b2.mono B0.size)
  clear HA0 HE0 B0 b2
  go_upto_region 4 with (first | (refine store_blk (k := 0) 29 (.agg (ftC 0 (-1))) (ftC 0 (-1)) (by rfl) rfl rfl rfl HE2 (by kernel_rfl) (by exact Nat.le_refl 2) rfl rfl (fun w3 HE3 b3 g3 => ?_)))
  have HA3 := HA2.grown g3 (by simp)
  have B3 : Below w.heap.size w w3 := B2.trans (b3.mono (by omega))
  clear HA2 HE2 B2 b3 g3
  have HA4 := HA3.alloc (.cells #[.string s, .int .i64 (0 : Nat), .int .i64 (0 : Nat)] 69)
  have HE4 := HE3.alloc (.cells #[.string s, .int .i64 (0 : Nat), .int .i64 (0 : Nat)] 69)
  have HC4 : Cur (w3.alloc (.cells #[.string s, .int .i64 (0 : Nat), .int .i64 (0 : Nat)] 69)) w3.heap.size s 0 0 := Blk.new w3 69 _
  have B4 := B3.alloc B3.size (.cells #[.string s, .int .i64 (0 : Nat), .int .i64 (0 : Nat)] 69)
  have hc4 : w.heap.size + 1 < w3.heap.size := HE3.lt
  clear HA3 HE3 B3
  go_upto_region 5 with (refine build_blk (t := 69) #[.string s, .int .i64 (0 : Nat), .int .i64 (0 : Nat)] (by rfl) rfl (by kernel_rfl) ?_)
  generalize w3.alloc (.cells #[.string s, .int .i64 0, .int .i64 0] 69) = w4 at *
  generalize w3.heap.size = c at *
  have hEc : w.heap.size + 1 < c := hc4
  clear hc4
  go_wp2_with fail
  refine (want_form HC4 (t := ⟨#[0, 1, 8, 0, 6, 4]⟩) (by rw [show (⟨#[0, 1, 8, 0, 6, 4]⟩ : ByteArray).size = 6 from rfl]; omega) ht (by omega)).mono ?_
  rintro e w5 ⟨rfl, g5⟩
  have HA5 := HA4.grown g5 (by simp; omega)
  have HE5 := HE4.grown g5 (by simp; omega)
  have B5 := grown_belowA B4 g5 B4.size (by omega)
  go_wp2
  exact ar_door_bad rfl rfl (by decide) HA5 HE5 (by omega) (Nat.le_refl _) (by omega) B5

set_option maxHeartbeats 3200000 in
theorem refArRead_num_bad (s : ByteArray) (w : World) (hs : s.size ≤ 300) (h1 : 6 ≤ s.size) (h2 : ¬ 8 ≤ s.size) (ht : (s.data.toList.drop 0).take (⟨#[0, 1, 8, 0, 6, 4]⟩ : ByteArray).size = (⟨#[0, 1, 8, 0, 6, 4]⟩ : ByteArray).data.toList) :
    Calls Tryd.prog 8 #[.string s] w fun r w' => r = .returned (.tuple #[.agg (arC zAr), .agg (ftC 7 6)]) ∧ Below w.heap.size w w' := by
  have hmf : ∀ (fn : Fn) (first cap : Array Value) (w : World), (Instr.makeFunc fn first cap).run Tryd.prog w = .ok (.func fn first cap) w := fun _ _ _ _ => rfl
  have HA0 := (Blk.new w 26 (arC zAr)).alloc (.cells (ftC 0 0) 29)
  have HE0 : Blk ((w.alloc (.cells (arC zAr) 26)).alloc (.cells (ftC 0 0) 29)) (w.heap.size + 1) 29 (ftC 0 0) := by
    have h := Blk.new (w.alloc (.cells (arC zAr) 26)) 29 (ftC 0 0)
    simpa using h
  have B0 : Below w.heap.size w ((w.alloc (.cells (arC zAr) 26)).alloc (.cells (ftC 0 0) 29)) := ((Below.refl _ _).alloc (Nat.le_refl _) _).alloc (by simp) _
  go_enter_defers Tryd.func8, Tryd.ntmps8
  go_upto_region 1 with (first | (refine alloc_blk 26 (arC zAr) (by rfl) rfl Tryd.arZero ?_) | (refine alloc_blk 29 (ftC 0 0) (by rfl) rfl Tryd.ftZero ?_))
  generalize (w.alloc (.cells (arC zAr) 26)).alloc (.cells (ftC 0 0) 29) = w1 at *
  go_wp2_with fail
  refine (good_any _).mono ?_
  rintro e w2 ⟨rfl, b2⟩
  have HA2 := HA0.kept b2
  have HE2 := HE0.kept b2
  have B2 := B0.trans (b2.mono B0.size)
  clear HA0 HE0 B0 b2
  go_upto_region 4 with (first | (refine store_blk (k := 0) 29 (.agg (ftC 0 (-1))) (ftC 0 (-1)) (by rfl) rfl rfl rfl HE2 (by kernel_rfl) (by exact Nat.le_refl 2) rfl rfl (fun w3 HE3 b3 g3 => ?_)))
  have HA3 := HA2.grown g3 (by simp)
  have B3 : Below w.heap.size w w3 := B2.trans (b3.mono (by omega))
  clear HA2 HE2 B2 b3 g3
  have HA4 := HA3.alloc (.cells #[.string s, .int .i64 (0 : Nat), .int .i64 (0 : Nat)] 69)
  have HE4 := HE3.alloc (.cells #[.string s, .int .i64 (0 : Nat), .int .i64 (0 : Nat)] 69)
  have HC4 : Cur (w3.alloc (.cells #[.string s, .int .i64 (0 : Nat), .int .i64 (0 : Nat)] 69)) w3.heap.size s 0 0 := Blk.new w3 69 _
  have B4 := B3.alloc B3.size (.cells #[.string s, .int .i64 (0 : Nat), .int .i64 (0 : Nat)] 69)
  have hc4 : w.heap.size + 1 < w3.heap.size := HE3.lt
  clear HA3 HE3 B3
  go_upto_region 5 with (refine build_blk (t := 69) #[.string s, .int .i64 (0 : Nat), .int .i64 (0 : Nat)] (by rfl) rfl (by kernel_rfl) ?_)
  generalize w3.alloc (.cells #[.string s, .int .i64 0, .int .i64 0] 69) = w4 at *
  generalize w3.heap.size = c at *
  have hEc : w.heap.size + 1 < c := hc4
  clear hc4
  go_wp2_with fail
  refine (want_ok HC4 (t := ⟨#[0, 1, 8, 0, 6, 4]⟩) (by rw [show (⟨#[0, 1, 8, 0, 6, 4]⟩ : ByteArray).size = 6 from rfl]; omega) ht (by omega)).mono ?_
  rintro e w5 ⟨rfl, HC5', g5⟩
  have HC5 : Cur w5 c s 6 0 := HC5'
  have HA5 := HA4.grown g5 (by simp; omega)
  have HE5 := HE4.grown g5 (by simp; omega)
  have B5 := grown_belowA B4 g5 B4.size (by omega)
  clear HC4 HC5' HA4 HE4 B4 g5
  go_wp2_with fail
  refine (cnum_bad HC5 2 (by omega) (by omega) (by decide) (by omega)).mono ?_
  rintro e w6 ⟨rfl, b6⟩
  have HA6 := HA5.kept b6
  have HE6 := HE5.kept b6
  have B6 := B5.trans (b6.mono B5.size)
  go_wp2
  exact ar_door_bad rfl rfl (by decide) HA6 HE6 (by omega) (Nat.le_refl _) (by omega) B6

set_option maxHeartbeats 3200000 in
theorem refArRead_op (s : ByteArray) (w : World) (hs : s.size ≤ 300) (h2 : 8 ≤ s.size) (hop : ¬ (beN ((s.data.toList.drop 6).take 2) = 1 ∨ beN ((s.data.toList.drop 6).take 2) = 2)) (ht : (s.data.toList.drop 0).take (⟨#[0, 1, 8, 0, 6, 4]⟩ : ByteArray).size = (⟨#[0, 1, 8, 0, 6, 4]⟩ : ByteArray).data.toList) :
    Calls Tryd.prog 8 #[.string s] w fun r w' => r = .returned (.tuple #[.agg (arC zAr), .agg (ftC 2 6)]) ∧ Below w.heap.size w w' := by
  have hmf : ∀ (fn : Fn) (first cap : Array Value) (w : World), (Instr.makeFunc fn first cap).run Tryd.prog w = .ok (.func fn first cap) w := fun _ _ _ _ => rfl
  have HA0 := (Blk.new w 26 (arC zAr)).alloc (.cells (ftC 0 0) 29)
  have HE0 : Blk ((w.alloc (.cells (arC zAr) 26)).alloc (.cells (ftC 0 0) 29)) (w.heap.size + 1) 29 (ftC 0 0) := by
    have h := Blk.new (w.alloc (.cells (arC zAr) 26)) 29 (ftC 0 0)
    simpa using h
  have B0 : Below w.heap.size w ((w.alloc (.cells (arC zAr) 26)).alloc (.cells (ftC 0 0) 29)) := ((Below.refl _ _).alloc (Nat.le_refl _) _).alloc (by simp) _
  go_enter_defers Tryd.func8, Tryd.ntmps8
  go_upto_region 1 with (first | (refine alloc_blk 26 (arC zAr) (by rfl) rfl Tryd.arZero ?_) | (refine alloc_blk 29 (ftC 0 0) (by rfl) rfl Tryd.ftZero ?_))
  generalize (w.alloc (.cells (arC zAr) 26)).alloc (.cells (ftC 0 0) 29) = w1 at *
  go_wp2_with fail
  refine (good_any _).mono ?_
  rintro e w2 ⟨rfl, b2⟩
  have HA2 := HA0.kept b2
  have HE2 := HE0.kept b2
  have B2 := B0.trans (b2.mono B0.size)
  clear HA0 HE0 B0 b2
  go_upto_region 4 with (first | (refine store_blk (k := 0) 29 (.agg (ftC 0 (-1))) (ftC 0 (-1)) (by rfl) rfl rfl rfl HE2 (by kernel_rfl) (by exact Nat.le_refl 2) rfl rfl (fun w3 HE3 b3 g3 => ?_)))
  have HA3 := HA2.grown g3 (by simp)
  have B3 : Below w.heap.size w w3 := B2.trans (b3.mono (by omega))
  clear HA2 HE2 B2 b3 g3
  have HA4 := HA3.alloc (.cells #[.string s, .int .i64 (0 : Nat), .int .i64 (0 : Nat)] 69)
  have HE4 := HE3.alloc (.cells #[.string s, .int .i64 (0 : Nat), .int .i64 (0 : Nat)] 69)
  have HC4 : Cur (w3.alloc (.cells #[.string s, .int .i64 (0 : Nat), .int .i64 (0 : Nat)] 69)) w3.heap.size s 0 0 := Blk.new w3 69 _
  have B4 := B3.alloc B3.size (.cells #[.string s, .int .i64 (0 : Nat), .int .i64 (0 : Nat)] 69)
  have hc4 : w.heap.size + 1 < w3.heap.size := HE3.lt
  clear HA3 HE3 B3
  go_upto_region 5 with (refine build_blk (t := 69) #[.string s, .int .i64 (0 : Nat), .int .i64 (0 : Nat)] (by rfl) rfl (by kernel_rfl) ?_)
  generalize w3.alloc (.cells #[.string s, .int .i64 0, .int .i64 0] 69) = w4 at *
  generalize w3.heap.size = c at *
  have hEc : w.heap.size + 1 < c := hc4
  clear hc4
  go_wp2_with fail
  refine (want_ok HC4 (t := ⟨#[0, 1, 8, 0, 6, 4]⟩) (by rw [show (⟨#[0, 1, 8, 0, 6, 4]⟩ : ByteArray).size = 6 from rfl]; omega) ht (by omega)).mono ?_
  rintro e w5 ⟨rfl, HC5', g5⟩
  have HC5 : Cur w5 c s 6 0 := HC5'
  have HA5 := HA4.grown g5 (by simp; omega)
  have HE5 := HE4.grown g5 (by simp; omega)
  have B5 := grown_belowA B4 g5 B4.size (by omega)
  clear HC4 HC5' HA4 HE4 B4 g5
  go_wp2_with fail
  refine (cnum_ok HC5 2 (by decide) (by omega) (by omega)).mono ?_
  rintro e w6 ⟨rfl, HC6, g6⟩
  have HA6 := HA5.grown g6 (by simp; omega)
  have HE6 := HE5.grown g6 (by simp; omega)
  have B6 := grown_belowA B5 g6 B5.size (by omega)
  clear HC5 HA5 HE5 B5 g6
  generalize beN ((s.data.toList.drop 6).take 2) = n at *
  go_upto_region 7 with (refine store_blk (k := 0) 3 (.int .i64 (n : Int)) (arC ⟨(n : Int), z6, z6, z6, z6⟩) (by rfl) rfl rfl rfl HA6 (by kernel_rfl) (by exact (by decide : 1 ≤ 21)) rfl rfl (fun w7 HA7 b7 g7 => ?_))
  have HC7 : Cur w7 c s 8 0 := Blk.grown HC6 g7 (by simp; omega)
  have HE7 := HE6.grown g7 (by simp)
  have B7 := B6.trans b7
  have c0 := HA7.cv 0 (.int .i64 (n : Int)) rfl
  clear HC6 HA6 HE6 B6 g7 b7
  have n1 : ((n : Int) != 1) = true := by simp; omega
  have n2 : ((n : Int) != 2) = true := by simp; omega
  clear hop
  go_wp2_with fail
  refine (throw_any HC7 2 6 (by decide) (by decide)).mono ?_
  rintro e w8 ⟨rfl, rfl⟩
  go_wp2
  exact ar_door_bad rfl rfl (by decide) HA7 HE7 (by omega) (Nat.le_refl _) (by omega) B7

end Go.Proofs.YtjoepmfineinfaaDoor
