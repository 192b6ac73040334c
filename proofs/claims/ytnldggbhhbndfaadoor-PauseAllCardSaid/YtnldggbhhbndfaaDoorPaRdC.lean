/- pause.readClasses. -/
import Derived.Test.YtnldggbhhbndfaaDoorBlk
import Derived.Test.YtnldggbhhbndfaaDoorPaSpec
namespace Go.Proofs.YtnldggbhhbndfaaDoor
open Go.RowKit
attribute [local go_sem ↓] Go.wp_at_zero Go.wp_at_succ
set_option linter.unusedSimpArgs false
set_option linter.unusedVariables false
set_option maxRecDepth 100000

set_option maxHeartbeats 3200000 in
theorem readClasses_big (s : ByteArray) (w : World) (g : Nat) (hs : s.size ≤ 300) (HR : RdT w g s 0 (pa1 s.data.toList).2) (h2 : (pa1 s.data.toList).2.1 = 2) (hv : 255 < paV s.data.toList) :
    Calls Tryd.prog 65 #[.pointer (some ⟨g, 0, none⟩)] w fun e w' => e = .returned (.agg (paC (paAll8 s.data.toList))) ∧ RdT w' g s 0 (paK s.data.toList 8) ∧ w.grownBy w' (some g) := by
  have hL : s.data.toList.length = s.size := by simp
  have hb : 0 + s.size ≤ 281474976710656 := by omega
  have l1 : (pa1 s.data.toList).2.1 ≤ s.size := by have := pa1_le s.data.toList; omega
  have hat : ((0 : Nat) : Int) + ((pa1 s.data.toList).2.1 : Int) = 2 := by rw [h2]; rfl
  have lk : Hid (∀ k, (paK s.data.toList k).1 ≤ s.size) := fun k => by have := paK_le s.data.toList k; omega
  have HA1 := Blk.new w 54 (paC zPa)
  have HR1 := HR.below ((Below.refl _ _).alloc (Nat.le_refl _) (.cells (paC zPa) 54))
  have G1 := World.grownBy_alloc w (.cells (paC zPa) 54) (some g)
  have hg0 := HR.lt
  clear HR h2
  go_enter Tryd.func65, Tryd.ntmps65
  go_upto_region 1 with (refine alloc_blk 54 (paC zPa) (by rfl) rfl Tryd.paZero ?_)
  generalize w.alloc (.cells (paC zPa) 54) = w1 at *
  go_wp2_with fail
  refine (at_t (pa1 s.data.toList).2 _ 2 HR1 hat).mono ?_
  rintro e w2 ⟨rfl, rfl⟩
  go_wp2_with fail
  refine (num2_t (pa1 s.data.toList).2 _ HR1 l1 hb).mono ?_
  rintro e w3 ⟨rfl, HR3', g3⟩
  have HR3 : RdT w3 g s 0 (pa2 s.data.toList).2 := HR3'
  have HA3 := HA1.reads HR1 (by decide : 54 ≠ 115) g3
  have G3 := grownBy_trans G1 g3
  have hval : (beN (tkN s.data.toList 0 (pa1 s.data.toList).2 2 true).1 : Int) = (paV s.data.toList : Int) := rfl
  rw [hval]
  clear HR1 HR3' HA1 G1 g3 hval hat
  have HR4 := HR3.below ((Below.refl _ _).alloc (Nat.le_refl _) (.cells (paC zPa) 54))
  have HA4 := HA3.alloc (.cells (paC zPa) 54)
  have HV4 := Blk.new w3 54 (paC zPa)
  have G4 := grownBy_trans G3 (World.grownBy_alloc w3 (.cells (paC zPa) 54) (some g))
  have hs3 : w.heap.size < w3.heap.size := HA3.lt
  clear HR3 HA3 G3
  go_upto_region 3 with (first | (refine build_blk (t := 54) (paC ⟨true, (paV s.data.toList : Int), fun _ => 0⟩) (by rfl) rfl (by kernel_rfl) ?_) | (refine alloc_blk 54 (paC zPa) (by rfl) rfl Tryd.paZero ?_) | (refine store_blk (k := 0) 54 (.agg (paC ⟨true, (paV s.data.toList : Int), fun _ => 0⟩)) (paC ⟨true, (paV s.data.toList : Int), fun _ => 0⟩) (by rfl) rfl rfl rfl HV4 (by kernel_rfl) (by exact Nat.le_refl 10) rfl rfl (fun w5 HV5 b5 g5 => ?_)))
  have HR5 := HR4.other HV4 (by decide : 54 ≠ 115) (by decide : 54 ≠ 108) g5
  have HA5 := HA4.grown g5 (by simp; omega)
  have G5 := grown_own G4 g5 (by omega)
  generalize w3.heap.size = v at *
  clear HR4 HA4 HV4 G4 g5 b5
  have c1 := HV5.cv 1 (.int .i64 (paV s.data.toList : Int)) rfl
  have d : decide ((255 : Int) < (paV s.data.toList : Int)) = true := decide_eq_true (by omega)
  go_wp2_with fail
  refine (fail_t (pa2 s.data.toList).2 2 2 (by decide) _ HR5).mono ?_
  rintro e w6 ⟨rfl, HR6', g6⟩
  have HR6 : RdT w6 g s 0 (paK s.data.toList 0) := by have e : pa3 s.data.toList = flR (pa2 s.data.toList).2 2 2 := if_pos hv; show RdT w6 g s 0 (pa3 s.data.toList); rw [e]; exact HR6'
  have HA6 := HA5.reads HR5 (by decide : 54 ≠ 115) g6
  have HV6 := HV5.reads HR5 (by decide : 54 ≠ 115) g6
  have G6 := grownBy_trans G5 g6
  clear HR5 HR6' HA5 HV5 G5 g6 c1
  go_wp2_with fail
  go_loopw [17] (fun i wr => ∃ k : Nat, k ≤ 8 ∧ i = .int .i64 k ∧ RdT wr g s 0 (paK s.data.toList k) ∧ Blk wr v 54 (paC ⟨true, (paV s.data.toList : Int), fun j => if j < k then (paT s.data.toList j : Int) else 0⟩) ∧ Blk wr w.heap.size 54 (paC zPa) ∧ w.grownBy wr (some g)) (fun i _ => 8 - (intOf i).toNat)
  case atStart => exact ⟨0, by omega, rfl, HR6, HV6, HA6, G6⟩
  case round =>
    obtain ⟨k, hk, rfl, hr, hV, hA, hG⟩ := hrel
    by_cases hlt : k < 8
    · have hki : decide ((k : Int) < 8) = true := decide_eq_true (by omega)
      have hki0 : (0 : Int) ≤ (k : Int) := by omega
      have hki1 : (k : Int) < 8 := by omega
      go_wp2_with fail
      refine (num2_t (paK s.data.toList k) _ hr (lk.out k) hb).mono ?_
      rintro e w7 ⟨rfl, hr7', g7⟩
      have hr7 : RdT w7 g s 0 (paK s.data.toList (k + 1)) := hr7'
      have hV7 := hV.reads hr (by decide : 54 ≠ 115) g7
      have hA7 := hA.reads hr (by decide : 54 ≠ 115) g7
      have hG7 := grownBy_trans hG g7
      have hval : (beN (tkN s.data.toList 0 (paK s.data.toList k) 2 true).1 : Int) = (paT s.data.toList k : Int) := rfl
      rw [hval]
      clear hr hr7' hV hA hG g7 hval
      go_wp2_with (refine store_blk (k := 2 + k) 3 (.int .i64 (paT s.data.toList k : Int)) (paC ⟨true, (paV s.data.toList : Int), fun j => if j < k + 1 then (paT s.data.toList j : Int) else 0⟩) (by rfl) rfl rfl rfl hV7 (by kernel_rfl) (by show 2 + k + 1 ≤ 10; omega) rfl (paCset true (paV s.data.toList : Int) (fun j => (paT s.data.toList j : Int)) k hlt) (fun w8 hV8 b8 g8 => ?_))
      have hr8 := hr7.other hV7 (by decide : 54 ≠ 115) (by decide : 54 ≠ 108) g8
      have hA8 := hA7.grown g8 (by simp; omega)
      have hG8 := grown_own hG7 g8 (by omega)
      go_roundw
      case rel => exact ⟨k + 1, by omega, by go_num, hr8, hV8, hA8, hG8⟩
      case measure => simp [intOf]; omega
    · obtain rfl : k = 8 := by omega
      rw [paC_eight] at hV
      go_wp2_with (first | (refine load_blk (k := 0) 54 (paC (paAll8 s.data.toList)) (by rfl) rfl rfl hV (by kernel_rfl) (by kernel_rfl) rfl ?_) | (refine store_blk (k := 0) 54 (.agg (paC (paAll8 s.data.toList))) (paC (paAll8 s.data.toList)) (by rfl) rfl rfl rfl hA (by kernel_rfl) (by exact Nat.le_refl 10) rfl rfl (fun w9 hA9 b9 g9 => ?_)))
      have hr9 := hr.other hA (by decide : 54 ≠ 115) (by decide : 54 ≠ 108) g9
      have hG9 := grown_own hG g9 (Nat.le_refl _)
      exact bodyPost_ret (results_blk rfl rfl hA9 (by kernel_rfl) (by kernel_rfl)) rfl ⟨rfl, hr9, hG9⟩

set_option maxHeartbeats 3200000 in
theorem readClasses_small (s : ByteArray) (w : World) (g : Nat) (hs : s.size ≤ 300) (HR : RdT w g s 0 (pa1 s.data.toList).2) (h2 : (pa1 s.data.toList).2.1 = 2) (hv : ¬ 255 < paV s.data.toList) :
    Calls Tryd.prog 65 #[.pointer (some ⟨g, 0, none⟩)] w fun e w' => e = .returned (.agg (paC (paAll8 s.data.toList))) ∧ RdT w' g s 0 (paK s.data.toList 8) ∧ w.grownBy w' (some g) := by
  have hL : s.data.toList.length = s.size := by simp
  have hb : 0 + s.size ≤ 281474976710656 := by omega
  have l1 : (pa1 s.data.toList).2.1 ≤ s.size := by have := pa1_le s.data.toList; omega
  have hat : ((0 : Nat) : Int) + ((pa1 s.data.toList).2.1 : Int) = 2 := by rw [h2]; rfl
  have lk : Hid (∀ k, (paK s.data.toList k).1 ≤ s.size) := fun k => by have := paK_le s.data.toList k; omega
  have HA1 := Blk.new w 54 (paC zPa)
  have HR1 := HR.below ((Below.refl _ _).alloc (Nat.le_refl _) (.cells (paC zPa) 54))
  have G1 := World.grownBy_alloc w (.cells (paC zPa) 54) (some g)
  have hg0 := HR.lt
  clear HR h2
  go_enter Tryd.func65, Tryd.ntmps65
  go_upto_region 1 with (refine alloc_blk 54 (paC zPa) (by rfl) rfl Tryd.paZero ?_)
  generalize w.alloc (.cells (paC zPa) 54) = w1 at *
  go_wp2_with fail
  refine (at_t (pa1 s.data.toList).2 _ 2 HR1 hat).mono ?_
  rintro e w2 ⟨rfl, rfl⟩
  go_wp2_with fail
  refine (num2_t (pa1 s.data.toList).2 _ HR1 l1 hb).mono ?_
  rintro e w3 ⟨rfl, HR3', g3⟩
  have HR3 : RdT w3 g s 0 (pa2 s.data.toList).2 := HR3'
  have HA3 := HA1.reads HR1 (by decide : 54 ≠ 115) g3
  have G3 := grownBy_trans G1 g3
  have hval : (beN (tkN s.data.toList 0 (pa1 s.data.toList).2 2 true).1 : Int) = (paV s.data.toList : Int) := rfl
  rw [hval]
  clear HR1 HR3' HA1 G1 g3 hval hat
  have HR4 := HR3.below ((Below.refl _ _).alloc (Nat.le_refl _) (.cells (paC zPa) 54))
  have HA4 := HA3.alloc (.cells (paC zPa) 54)
  have HV4 := Blk.new w3 54 (paC zPa)
  have G4 := grownBy_trans G3 (World.grownBy_alloc w3 (.cells (paC zPa) 54) (some g))
  have hs3 : w.heap.size < w3.heap.size := HA3.lt
  clear HR3 HA3 G3
  go_upto_region 3 with (first | (refine build_blk (t := 54) (paC ⟨true, (paV s.data.toList : Int), fun _ => 0⟩) (by rfl) rfl (by kernel_rfl) ?_) | (refine alloc_blk 54 (paC zPa) (by rfl) rfl Tryd.paZero ?_) | (refine store_blk (k := 0) 54 (.agg (paC ⟨true, (paV s.data.toList : Int), fun _ => 0⟩)) (paC ⟨true, (paV s.data.toList : Int), fun _ => 0⟩) (by rfl) rfl rfl rfl HV4 (by kernel_rfl) (by exact Nat.le_refl 10) rfl rfl (fun w5 HV5 b5 g5 => ?_)))
  have HR5 := HR4.other HV4 (by decide : 54 ≠ 115) (by decide : 54 ≠ 108) g5
  have HA5 := HA4.grown g5 (by simp; omega)
  have G5 := grown_own G4 g5 (by omega)
  generalize w3.heap.size = v at *
  clear HR4 HA4 HV4 G4 g5 b5
  have c1 := HV5.cv 1 (.int .i64 (paV s.data.toList : Int)) rfl
  have d : decide ((255 : Int) < (paV s.data.toList : Int)) = false := decide_eq_false (by omega)
  have HR6 : RdT w5 g s 0 (paK s.data.toList 0) := by have e : pa3 s.data.toList = (pa2 s.data.toList).2 := if_neg hv; show RdT w5 g s 0 (pa3 s.data.toList); rw [e]; exact HR5
  have HA6 := HA5
  have HV6 := HV5
  have G6 := G5
  clear HR5 HA5 HV5 G5
  go_wp2_with fail
  go_loopw [17] (fun i wr => ∃ k : Nat, k ≤ 8 ∧ i = .int .i64 k ∧ RdT wr g s 0 (paK s.data.toList k) ∧ Blk wr v 54 (paC ⟨true, (paV s.data.toList : Int), fun j => if j < k then (paT s.data.toList j : Int) else 0⟩) ∧ Blk wr w.heap.size 54 (paC zPa) ∧ w.grownBy wr (some g)) (fun i _ => 8 - (intOf i).toNat)
  case atStart => exact ⟨0, by omega, rfl, HR6, HV6, HA6, G6⟩
  case round =>
    obtain ⟨k, hk, rfl, hr, hV, hA, hG⟩ := hrel
    by_cases hlt : k < 8
    · have hki : decide ((k : Int) < 8) = true := decide_eq_true (by omega)
      have hki0 : (0 : Int) ≤ (k : Int) := by omega
      have hki1 : (k : Int) < 8 := by omega
      go_wp2_with fail
      refine (num2_t (paK s.data.toList k) _ hr (lk.out k) hb).mono ?_
      rintro e w7 ⟨rfl, hr7', g7⟩
      have hr7 : RdT w7 g s 0 (paK s.data.toList (k + 1)) := hr7'
      have hV7 := hV.reads hr (by decide : 54 ≠ 115) g7
      have hA7 := hA.reads hr (by decide : 54 ≠ 115) g7
      have hG7 := grownBy_trans hG g7
      have hval : (beN (tkN s.data.toList 0 (paK s.data.toList k) 2 true).1 : Int) = (paT s.data.toList k : Int) := rfl
      rw [hval]
      clear hr hr7' hV hA hG g7 hval
      go_wp2_with (refine store_blk (k := 2 + k) 3 (.int .i64 (paT s.data.toList k : Int)) (paC ⟨true, (paV s.data.toList : Int), fun j => if j < k + 1 then (paT s.data.toList j : Int) else 0⟩) (by rfl) rfl rfl rfl hV7 (by kernel_rfl) (by show 2 + k + 1 ≤ 10; omega) rfl (paCset true (paV s.data.toList : Int) (fun j => (paT s.data.toList j : Int)) k hlt) (fun w8 hV8 b8 g8 => ?_))
      have hr8 := hr7.other hV7 (by decide : 54 ≠ 115) (by decide : 54 ≠ 108) g8
      have hA8 := hA7.grown g8 (by simp; omega)
      have hG8 := grown_own hG7 g8 (by omega)
      go_roundw
      case rel => exact ⟨k + 1, by omega, by go_num, hr8, hV8, hA8, hG8⟩
      case measure => simp [intOf]; omega
    · obtain rfl : k = 8 := by omega
      rw [paC_eight] at hV
      go_wp2_with (first | (refine load_blk (k := 0) 54 (paC (paAll8 s.data.toList)) (by rfl) rfl rfl hV (by kernel_rfl) (by kernel_rfl) rfl ?_) | (refine store_blk (k := 0) 54 (.agg (paC (paAll8 s.data.toList))) (paC (paAll8 s.data.toList)) (by rfl) rfl rfl rfl hA (by kernel_rfl) (by exact Nat.le_refl 10) rfl rfl (fun w9 hA9 b9 g9 => ?_)))
      have hr9 := hr.other hA (by decide : 54 ≠ 115) (by decide : 54 ≠ 108) g9
      have hG9 := grown_own hG g9 (Nat.le_refl _)
      exact bodyPost_ret (results_blk rfl rfl hA9 (by kernel_rfl) (by kernel_rfl)) rfl ⟨rfl, hr9, hG9⟩

theorem readClasses_any (s : ByteArray) (w : World) (g : Nat) (hs : s.size ≤ 300) (HR : RdT w g s 0 (pa1 s.data.toList).2) (h2 : (pa1 s.data.toList).2.1 = 2) :
    Calls Tryd.prog 65 #[.pointer (some ⟨g, 0, none⟩)] w fun e w' => e = .returned (.agg (paC (paAll8 s.data.toList))) ∧ RdT w' g s 0 (paK s.data.toList 8) ∧ w.grownBy w' (some g) := by
  by_cases hv : 255 < paV s.data.toList
  · exact readClasses_big s w g hs HR h2 hv
  · exact readClasses_small s w g hs HR h2 hv

end Go.Proofs.YtnldggbhhbndfaaDoor
