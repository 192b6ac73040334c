/- pause.Read at every text. -/
import Derived.Test.YtnldggbhhbndfaaDoorBlk
import Derived.Test.YtnldggbhhbndfaaDoorPaRdC
import Derived.Test.YtnldggbhhbndfaaDoorLeadT
import Derived.Test.YtnldggbhhbndfaaDoorPlaced
namespace Go.Proofs.YtnldggbhhbndfaaDoor
open Go.RowKit
attribute [local go_sem ↓] Go.wp_at_zero Go.wp_at_succ
set_option linter.unusedSimpArgs false
set_option linter.unusedVariables false
set_option maxRecDepth 100000

set_option maxHeartbeats 3200000 in
theorem paRead_all_t (s : ByteArray) (w : World) (hs : s.size ≤ 300) (hn : paN s.data.toList = 1) (hz : (pa9 s.data.toList).1 = true) :
    Calls Tryd.prog 29 #[.string s] w fun e w' => e = .returned (.tuple #[.agg (paC (paAll (paV s.data.toList))), .nilIface]) ∧ Below w.heap.size w w' := by
  have hL : s.data.toList.length = s.size := by simp
  have hb : 0 + s.size ≤ 281474976710656 := by omega
  have l1 : (pa1 s.data.toList).2.1 ≤ s.size := by have := pa1_le s.data.toList; omega
  have lS : (paS s.data.toList).1 ≤ s.size := by have := paS_le s.data.toList; omega
  have HA0 := Blk.new w 54 (paC zPa)
  have B0 : Below w.heap.size w (w.alloc (.cells (paC zPa) 54)) := (Below.refl _ _).alloc (Nat.le_refl _) _
  have hS : paS s.data.toList = (pa2 s.data.toList).2 := if_pos hn
  have hv : (beN (tkN s.data.toList 0 (0, 0, -1) 2 true).1 : Int) = 1 := by show ((paN s.data.toList : Nat) : Int) = 1; rw [hn]; rfl
  clear hn
  go_enter Tryd.func29, Tryd.ntmps29
  go_upto_region 1 with (refine alloc_blk 54 (paC zPa) (by rfl) rfl Tryd.paZero ?_)
  generalize w.alloc (.cells (paC zPa) 54) = w1 at *
  have hA1 := HA0.lt
  go_wp2_with fail
  refine (new_t s 0 _).mono ?_
  rintro e w2 ⟨rfl, HR2, b2⟩
  have HR3 := HR2.below ((Below.refl _ _).alloc (Nat.le_refl _) (.cells (paC zPa) 54))
  have HA3 := (HA0.kept b2).alloc (.cells (paC zPa) 54)
  have HV3 := Blk.new w2 54 (paC zPa)
  have B2 := B0.trans (b2.mono B0.size)
  have B3 := B2.alloc B2.size (.cells (paC zPa) 54)
  have hg3 := HR2.lt
  have hv3 : w.heap.size < w2.heap.size := (HA0.kept b2).lt
  generalize w1.heap.size = g at *
  clear HA0 B0 b2 HR2 B2
  go_upto_region 3 with (refine alloc_blk 54 (paC zPa) (by rfl) rfl Tryd.paZero ?_)
  generalize w2.alloc (.cells (paC zPa) 54) = w3 at *
  generalize w2.heap.size = v at *
  go_wp2_with fail
  refine (num2_t (0, 0, -1) _ HR3 (Nat.zero_le _) hb).mono ?_
  rintro e w4 ⟨rfl, HR4', g4⟩
  have HR4 : RdT w4 g s 0 (pa1 s.data.toList).2 := HR4'
  have HA4 := HA3.reads HR3 (by decide : 54 ≠ 115) g4
  have HV4 := HV3.reads HR3 (by decide : 54 ≠ 115) g4
  have B4 := grown_belowA B3 g4 B3.size (by omega)
  rw [hv]
  clear HR3 HR4' HA3 HV3 B3 g4 hv
  go_wp2_with fail
  refine (num2_t (pa1 s.data.toList).2 _ HR4 l1 hb).mono ?_
  rintro e w5 ⟨rfl, HR5', g5⟩
  have HR5 : RdT w5 g s 0 (paS s.data.toList) := by rw [hS]; exact HR5'
  have HA5 := HA4.reads HR4 (by decide : 54 ≠ 115) g5
  have HV5 := HV4.reads HR4 (by decide : 54 ≠ 115) g5
  have B5 := grown_belowA B4 g5 B4.size (by omega)
  have hval : (beN (tkN s.data.toList 0 (pa1 s.data.toList).2 2 true).1 : Int) = (paV s.data.toList : Int) := rfl
  rw [hval]
  clear HR4 HR5' HA4 HV4 B4 g5 hS hval
  go_wp2_with fail
  refine (forAll_any (paV s.data.toList : Int) _).mono ?_
  rintro e w6 ⟨rfl, b6⟩
  have HR6 := HR5.below b6
  have HA6 := HA5.kept b6
  have HV6 := HV5.kept b6
  have B6 := B5.trans (b6.mono B5.size)
  clear HR5 HA5 HV5 B5 b6
  go_wp2_with (refine store_blk (k := 0) 54 (.agg (paC (paAll (paV s.data.toList)))) (paC (paAll (paV s.data.toList))) (by rfl) rfl rfl rfl HV6 (by kernel_rfl) (by exact Nat.le_refl 10) rfl rfl (fun w7 HV7 b7 g7 => ?_))
  have HR7 := HR6.other HV6 (by decide : 54 ≠ 115) (by decide : 54 ≠ 108) g7
  have HA7 := HA6.grown g7 (by simp; omega)
  have B7 := grown_belowA B6 g7 B6.size (by omega)
  clear HR6 HA6 HV6 B6 g7 b7
  refine (zeros_t (paS s.data.toList) _ HR7 lS hb).mono ?_
  rintro e w8 ⟨rfl, HR8', g8⟩
  have HR8 : RdT w8 g s 0 (pa9 s.data.toList).2 := HR8'
  have HA8 := HA7.reads HR7 (by decide : 54 ≠ 115) g8
  have HV8 := HV7.reads HR7 (by decide : 54 ≠ 115) g8
  have B8 := grown_belowA B7 g8 B7.size (by omega)
  rw [show (zrR s.data.toList 0 (paS s.data.toList)).1 = true from hz]
  clear HR7 HR8' HA7 HV7 B7 g8
  go_wp2_with (first | (refine load_blk (k := 0) 54 (paC (paAll (paV s.data.toList))) (by rfl) rfl rfl HV8 (by kernel_rfl) (by kernel_rfl) rfl ?_) | (refine store_blk (k := 0) 54 (.agg (paC (paAll (paV s.data.toList)))) (paC (paAll (paV s.data.toList))) (by rfl) rfl rfl rfl HA8 (by kernel_rfl) (by exact Nat.le_refl 10) rfl rfl (fun w10 HA10 b10 g10 => ?_)))
  have B10 := B8.trans (b10.mono (Nat.le_refl _))
  exact bodyPost_ret (results_blk_tmp rfl rfl HA10 (by kernel_rfl) (by kernel_rfl)) rfl ⟨rfl, B10⟩

set_option maxHeartbeats 3200000 in
theorem paRead_all_f (s : ByteArray) (w : World) (hs : s.size ≤ 300) (hn : paN s.data.toList = 1) (hz : (pa9 s.data.toList).1 = false) :
    Calls Tryd.prog 29 #[.string s] w fun e w' => ∃ q, e = .returned (.tuple #[.agg (paC zPa), .iface 105 (.pointer (some ⟨q, 0, none⟩))]) ∧ Flt w' q (paE s.data.toList) (paP s.data.toList) ∧ Below w.heap.size w w' := by
  have hL : s.data.toList.length = s.size := by simp
  have hb : 0 + s.size ≤ 281474976710656 := by omega
  have l1 : (pa1 s.data.toList).2.1 ≤ s.size := by have := pa1_le s.data.toList; omega
  have lS : (paS s.data.toList).1 ≤ s.size := by have := paS_le s.data.toList; omega
  have HA0 := Blk.new w 54 (paC zPa)
  have B0 : Below w.heap.size w (w.alloc (.cells (paC zPa) 54)) := (Below.refl _ _).alloc (Nat.le_refl _) _
  have hS : paS s.data.toList = (pa2 s.data.toList).2 := if_pos hn
  have hv : (beN (tkN s.data.toList 0 (0, 0, -1) 2 true).1 : Int) = 1 := by show ((paN s.data.toList : Nat) : Int) = 1; rw [hn]; rfl
  clear hn
  go_enter Tryd.func29, Tryd.ntmps29
  go_upto_region 1 with (refine alloc_blk 54 (paC zPa) (by rfl) rfl Tryd.paZero ?_)
  generalize w.alloc (.cells (paC zPa) 54) = w1 at *
  have hA1 := HA0.lt
  go_wp2_with fail
  refine (new_t s 0 _).mono ?_
  rintro e w2 ⟨rfl, HR2, b2⟩
  have HR3 := HR2.below ((Below.refl _ _).alloc (Nat.le_refl _) (.cells (paC zPa) 54))
  have HA3 := (HA0.kept b2).alloc (.cells (paC zPa) 54)
  have HV3 := Blk.new w2 54 (paC zPa)
  have B2 := B0.trans (b2.mono B0.size)
  have B3 := B2.alloc B2.size (.cells (paC zPa) 54)
  have hg3 := HR2.lt
  have hv3 : w.heap.size < w2.heap.size := (HA0.kept b2).lt
  generalize w1.heap.size = g at *
  clear HA0 B0 b2 HR2 B2
  go_upto_region 3 with (refine alloc_blk 54 (paC zPa) (by rfl) rfl Tryd.paZero ?_)
  generalize w2.alloc (.cells (paC zPa) 54) = w3 at *
  generalize w2.heap.size = v at *
  go_wp2_with fail
  refine (num2_t (0, 0, -1) _ HR3 (Nat.zero_le _) hb).mono ?_
  rintro e w4 ⟨rfl, HR4', g4⟩
  have HR4 : RdT w4 g s 0 (pa1 s.data.toList).2 := HR4'
  have HA4 := HA3.reads HR3 (by decide : 54 ≠ 115) g4
  have HV4 := HV3.reads HR3 (by decide : 54 ≠ 115) g4
  have B4 := grown_belowA B3 g4 B3.size (by omega)
  rw [hv]
  clear HR3 HR4' HA3 HV3 B3 g4 hv
  go_wp2_with fail
  refine (num2_t (pa1 s.data.toList).2 _ HR4 l1 hb).mono ?_
  rintro e w5 ⟨rfl, HR5', g5⟩
  have HR5 : RdT w5 g s 0 (paS s.data.toList) := by rw [hS]; exact HR5'
  have HA5 := HA4.reads HR4 (by decide : 54 ≠ 115) g5
  have HV5 := HV4.reads HR4 (by decide : 54 ≠ 115) g5
  have B5 := grown_belowA B4 g5 B4.size (by omega)
  have hval : (beN (tkN s.data.toList 0 (pa1 s.data.toList).2 2 true).1 : Int) = (paV s.data.toList : Int) := rfl
  rw [hval]
  clear HR4 HR5' HA4 HV4 B4 g5 hS hval
  go_wp2_with fail
  refine (forAll_any (paV s.data.toList : Int) _).mono ?_
  rintro e w6 ⟨rfl, b6⟩
  have HR6 := HR5.below b6
  have HA6 := HA5.kept b6
  have HV6 := HV5.kept b6
  have B6 := B5.trans (b6.mono B5.size)
  clear HR5 HA5 HV5 B5 b6
  go_wp2_with (refine store_blk (k := 0) 54 (.agg (paC (paAll (paV s.data.toList)))) (paC (paAll (paV s.data.toList))) (by rfl) rfl rfl rfl HV6 (by kernel_rfl) (by exact Nat.le_refl 10) rfl rfl (fun w7 HV7 b7 g7 => ?_))
  have HR7 := HR6.other HV6 (by decide : 54 ≠ 115) (by decide : 54 ≠ 108) g7
  have HA7 := HA6.grown g7 (by simp; omega)
  have B7 := grown_belowA B6 g7 B6.size (by omega)
  clear HR6 HA6 HV6 B6 g7 b7
  refine (zeros_t (paS s.data.toList) _ HR7 lS hb).mono ?_
  rintro e w8 ⟨rfl, HR8', g8⟩
  have HR8 : RdT w8 g s 0 (pa9 s.data.toList).2 := HR8'
  have HA8 := HA7.reads HR7 (by decide : 54 ≠ 115) g8
  have HV8 := HV7.reads HR7 (by decide : 54 ≠ 115) g8
  have B8 := grown_belowA B7 g8 B7.size (by omega)
  rw [show (zrR s.data.toList 0 (paS s.data.toList)).1 = false from hz]
  clear HR7 HR8' HA7 HV7 B7 g8
  go_wp2_with (refine build_blk (t := 54) (paC zPa) (by rfl) rfl (by kernel_rfl) ?_)
  refine (err_t (pa9 s.data.toList).2 _ HR8 (zrR_no _ _ _ hz)).mono ?_
  rintro e w9 ⟨rfl, hf, b9⟩
  have HA9 := HA8.kept b9
  have hlt9 : w.heap.size < w8.heap.size := HA8.lt
  have B9 := B8.trans (b9.mono B8.size)
  clear HR8 HA8 HV8 B8 b9
  go_wp2_with (refine store_blk (k := 0) 54 (.agg (paC zPa)) (paC zPa) (by rfl) rfl rfl rfl HA9 (by kernel_rfl) (by exact Nat.le_refl 10) rfl rfl (fun w10 HA10 b10 g10 => ?_))
  have B10 := B9.trans (b10.mono (Nat.le_refl _))
  have hf10 : Flt w10 w8.heap.size (paE s.data.toList) (paP s.data.toList) := hf.kept g10 (by simp; omega)
  exact bodyPost_ret (results_blk_tmp rfl rfl HA10 (by kernel_rfl) (by kernel_rfl)) rfl ⟨_, rfl, hf10, B10⟩

set_option maxHeartbeats 3200000 in
theorem paRead_class_t (s : ByteArray) (w : World) (hs : s.size ≤ 300) (hn : paN s.data.toList = 257) (hz : (pa9 s.data.toList).1 = true) :
    Calls Tryd.prog 29 #[.string s] w fun e w' => e = .returned (.tuple #[.agg (paC (paAll8 s.data.toList)), .nilIface]) ∧ Below w.heap.size w w' := by
  have hL : s.data.toList.length = s.size := by simp
  have hb : 0 + s.size ≤ 281474976710656 := by omega
  have l1 : (pa1 s.data.toList).2.1 ≤ s.size := by have := pa1_le s.data.toList; omega
  have lS : (paS s.data.toList).1 ≤ s.size := by have := paS_le s.data.toList; omega
  have HA0 := Blk.new w 54 (paC zPa)
  have B0 : Below w.heap.size w (w.alloc (.cells (paC zPa) 54)) := (Below.refl _ _).alloc (Nat.le_refl _) _
  have h2 : (pa1 s.data.toList).2.1 = 2 := by
    by_cases q : 2 ≤ s.size
    · have e1 : pa1 s.data.toList = ((s.data.toList.drop 0).take 2, 2, 0, -1) := tkN_go s.data.toList 0 (0, 0, -1) 2 true rfl (by simpa using q) (by simp)
      rw [e1]
    · exfalso
      have e1 : pa1 s.data.toList = ([], 0, 7, 0) := tkN_miss s.data.toList 0 (0, 0, -1) 2 true rfl (by simpa using q) (Nat.zero_le _) (by simp)
      have n0 : paN s.data.toList = 0 := by unfold paN; rw [e1]; rfl
      omega
  have hS : paS s.data.toList = paK s.data.toList 8 := by unfold paS; rw [if_neg (by rw [hn]; decide), if_pos hn]
  have hv : (beN (tkN s.data.toList 0 (0, 0, -1) 2 true).1 : Int) = 257 := by show ((paN s.data.toList : Nat) : Int) = 257; rw [hn]; rfl
  clear hn
  go_enter Tryd.func29, Tryd.ntmps29
  go_upto_region 1 with (refine alloc_blk 54 (paC zPa) (by rfl) rfl Tryd.paZero ?_)
  generalize w.alloc (.cells (paC zPa) 54) = w1 at *
  have hA1 := HA0.lt
  go_wp2_with fail
  refine (new_t s 0 _).mono ?_
  rintro e w2 ⟨rfl, HR2, b2⟩
  have HR3 := HR2.below ((Below.refl _ _).alloc (Nat.le_refl _) (.cells (paC zPa) 54))
  have HA3 := (HA0.kept b2).alloc (.cells (paC zPa) 54)
  have HV3 := Blk.new w2 54 (paC zPa)
  have B2 := B0.trans (b2.mono B0.size)
  have B3 := B2.alloc B2.size (.cells (paC zPa) 54)
  have hg3 := HR2.lt
  have hv3 : w.heap.size < w2.heap.size := (HA0.kept b2).lt
  generalize w1.heap.size = g at *
  clear HA0 B0 b2 HR2 B2
  go_upto_region 3 with (refine alloc_blk 54 (paC zPa) (by rfl) rfl Tryd.paZero ?_)
  generalize w2.alloc (.cells (paC zPa) 54) = w3 at *
  generalize w2.heap.size = v at *
  go_wp2_with fail
  refine (num2_t (0, 0, -1) _ HR3 (Nat.zero_le _) hb).mono ?_
  rintro e w4 ⟨rfl, HR4', g4⟩
  have HR4 : RdT w4 g s 0 (pa1 s.data.toList).2 := HR4'
  have HA4 := HA3.reads HR3 (by decide : 54 ≠ 115) g4
  have HV4 := HV3.reads HR3 (by decide : 54 ≠ 115) g4
  have B4 := grown_belowA B3 g4 B3.size (by omega)
  rw [hv]
  clear HR3 HR4' HA3 HV3 B3 g4 hv
  go_wp2_with fail
  refine (readClasses_any s _ g hs HR4 h2).mono ?_
  rintro e w6 ⟨rfl, HR6', g6⟩
  have HR6 : RdT w6 g s 0 (paS s.data.toList) := by rw [hS]; exact HR6'
  have HA6 := HA4.reads HR4 (by decide : 54 ≠ 115) g6
  have HV6 := HV4.reads HR4 (by decide : 54 ≠ 115) g6
  have B6 := grown_belowA B4 g6 B4.size (by omega)
  clear HR4 HR6' HA4 HV4 B4 g6 hS h2
  go_wp2_with (refine store_blk (k := 0) 54 (.agg (paC (paAll8 s.data.toList))) (paC (paAll8 s.data.toList)) (by rfl) rfl rfl rfl HV6 (by kernel_rfl) (by exact Nat.le_refl 10) rfl rfl (fun w7 HV7 b7 g7 => ?_))
  have HR7 := HR6.other HV6 (by decide : 54 ≠ 115) (by decide : 54 ≠ 108) g7
  have HA7 := HA6.grown g7 (by simp; omega)
  have B7 := grown_belowA B6 g7 B6.size (by omega)
  clear HR6 HA6 HV6 B6 g7 b7
  refine (zeros_t (paS s.data.toList) _ HR7 lS hb).mono ?_
  rintro e w8 ⟨rfl, HR8', g8⟩
  have HR8 : RdT w8 g s 0 (pa9 s.data.toList).2 := HR8'
  have HA8 := HA7.reads HR7 (by decide : 54 ≠ 115) g8
  have HV8 := HV7.reads HR7 (by decide : 54 ≠ 115) g8
  have B8 := grown_belowA B7 g8 B7.size (by omega)
  rw [show (zrR s.data.toList 0 (paS s.data.toList)).1 = true from hz]
  clear HR7 HR8' HA7 HV7 B7 g8
  go_wp2_with (first | (refine load_blk (k := 0) 54 (paC (paAll8 s.data.toList)) (by rfl) rfl rfl HV8 (by kernel_rfl) (by kernel_rfl) rfl ?_) | (refine store_blk (k := 0) 54 (.agg (paC (paAll8 s.data.toList))) (paC (paAll8 s.data.toList)) (by rfl) rfl rfl rfl HA8 (by kernel_rfl) (by exact Nat.le_refl 10) rfl rfl (fun w10 HA10 b10 g10 => ?_)))
  have B10 := B8.trans (b10.mono (Nat.le_refl _))
  exact bodyPost_ret (results_blk_tmp rfl rfl HA10 (by kernel_rfl) (by kernel_rfl)) rfl ⟨rfl, B10⟩

set_option maxHeartbeats 3200000 in
theorem paRead_class_f (s : ByteArray) (w : World) (hs : s.size ≤ 300) (hn : paN s.data.toList = 257) (hz : (pa9 s.data.toList).1 = false) :
    Calls Tryd.prog 29 #[.string s] w fun e w' => ∃ q, e = .returned (.tuple #[.agg (paC zPa), .iface 105 (.pointer (some ⟨q, 0, none⟩))]) ∧ Flt w' q (paE s.data.toList) (paP s.data.toList) ∧ Below w.heap.size w w' := by
  have hL : s.data.toList.length = s.size := by simp
  have hb : 0 + s.size ≤ 281474976710656 := by omega
  have l1 : (pa1 s.data.toList).2.1 ≤ s.size := by have := pa1_le s.data.toList; omega
  have lS : (paS s.data.toList).1 ≤ s.size := by have := paS_le s.data.toList; omega
  have HA0 := Blk.new w 54 (paC zPa)
  have B0 : Below w.heap.size w (w.alloc (.cells (paC zPa) 54)) := (Below.refl _ _).alloc (Nat.le_refl _) _
  have h2 : (pa1 s.data.toList).2.1 = 2 := by
    by_cases q : 2 ≤ s.size
    · have e1 : pa1 s.data.toList = ((s.data.toList.drop 0).take 2, 2, 0, -1) := tkN_go s.data.toList 0 (0, 0, -1) 2 true rfl (by simpa using q) (by simp)
      rw [e1]
    · exfalso
      have e1 : pa1 s.data.toList = ([], 0, 7, 0) := tkN_miss s.data.toList 0 (0, 0, -1) 2 true rfl (by simpa using q) (Nat.zero_le _) (by simp)
      have n0 : paN s.data.toList = 0 := by unfold paN; rw [e1]; rfl
      omega
  have hS : paS s.data.toList = paK s.data.toList 8 := by unfold paS; rw [if_neg (by rw [hn]; decide), if_pos hn]
  have hv : (beN (tkN s.data.toList 0 (0, 0, -1) 2 true).1 : Int) = 257 := by show ((paN s.data.toList : Nat) : Int) = 257; rw [hn]; rfl
  clear hn
  go_enter Tryd.func29, Tryd.ntmps29
  go_upto_region 1 with (refine alloc_blk 54 (paC zPa) (by rfl) rfl Tryd.paZero ?_)
  generalize w.alloc (.cells (paC zPa) 54) = w1 at *
  have hA1 := HA0.lt
  go_wp2_with fail
  refine (new_t s 0 _).mono ?_
  rintro e w2 ⟨rfl, HR2, b2⟩
  have HR3 := HR2.below ((Below.refl _ _).alloc (Nat.le_refl _) (.cells (paC zPa) 54))
  have HA3 := (HA0.kept b2).alloc (.cells (paC zPa) 54)
  have HV3 := Blk.new w2 54 (paC zPa)
  have B2 := B0.trans (b2.mono B0.size)
  have B3 := B2.alloc B2.size (.cells (paC zPa) 54)
  have hg3 := HR2.lt
  have hv3 : w.heap.size < w2.heap.size := (HA0.kept b2).lt
  generalize w1.heap.size = g at *
  clear HA0 B0 b2 HR2 B2
  go_upto_region 3 with (refine alloc_blk 54 (paC zPa) (by rfl) rfl Tryd.paZero ?_)
  generalize w2.alloc (.cells (paC zPa) 54) = w3 at *
  generalize w2.heap.size = v at *
  go_wp2_with fail
  refine (num2_t (0, 0, -1) _ HR3 (Nat.zero_le _) hb).mono ?_
  rintro e w4 ⟨rfl, HR4', g4⟩
  have HR4 : RdT w4 g s 0 (pa1 s.data.toList).2 := HR4'
  have HA4 := HA3.reads HR3 (by decide : 54 ≠ 115) g4
  have HV4 := HV3.reads HR3 (by decide : 54 ≠ 115) g4
  have B4 := grown_belowA B3 g4 B3.size (by omega)
  rw [hv]
  clear HR3 HR4' HA3 HV3 B3 g4 hv
  go_wp2_with fail
  refine (readClasses_any s _ g hs HR4 h2).mono ?_
  rintro e w6 ⟨rfl, HR6', g6⟩
  have HR6 : RdT w6 g s 0 (paS s.data.toList) := by rw [hS]; exact HR6'
  have HA6 := HA4.reads HR4 (by decide : 54 ≠ 115) g6
  have HV6 := HV4.reads HR4 (by decide : 54 ≠ 115) g6
  have B6 := grown_belowA B4 g6 B4.size (by omega)
  clear HR4 HR6' HA4 HV4 B4 g6 hS h2
  go_wp2_with (refine store_blk (k := 0) 54 (.agg (paC (paAll8 s.data.toList))) (paC (paAll8 s.data.toList)) (by rfl) rfl rfl rfl HV6 (by kernel_rfl) (by exact Nat.le_refl 10) rfl rfl (fun w7 HV7 b7 g7 => ?_))
  have HR7 := HR6.other HV6 (by decide : 54 ≠ 115) (by decide : 54 ≠ 108) g7
  have HA7 := HA6.grown g7 (by simp; omega)
  have B7 := grown_belowA B6 g7 B6.size (by omega)
  clear HR6 HA6 HV6 B6 g7 b7
  refine (zeros_t (paS s.data.toList) _ HR7 lS hb).mono ?_
  rintro e w8 ⟨rfl, HR8', g8⟩
  have HR8 : RdT w8 g s 0 (pa9 s.data.toList).2 := HR8'
  have HA8 := HA7.reads HR7 (by decide : 54 ≠ 115) g8
  have HV8 := HV7.reads HR7 (by decide : 54 ≠ 115) g8
  have B8 := grown_belowA B7 g8 B7.size (by omega)
  rw [show (zrR s.data.toList 0 (paS s.data.toList)).1 = false from hz]
  clear HR7 HR8' HA7 HV7 B7 g8
  go_wp2_with (refine build_blk (t := 54) (paC zPa) (by rfl) rfl (by kernel_rfl) ?_)
  refine (err_t (pa9 s.data.toList).2 _ HR8 (zrR_no _ _ _ hz)).mono ?_
  rintro e w9 ⟨rfl, hf, b9⟩
  have HA9 := HA8.kept b9
  have hlt9 : w.heap.size < w8.heap.size := HA8.lt
  have B9 := B8.trans (b9.mono B8.size)
  clear HR8 HA8 HV8 B8 b9
  go_wp2_with (refine store_blk (k := 0) 54 (.agg (paC zPa)) (paC zPa) (by rfl) rfl rfl rfl HA9 (by kernel_rfl) (by exact Nat.le_refl 10) rfl rfl (fun w10 HA10 b10 g10 => ?_))
  have B10 := B9.trans (b10.mono (Nat.le_refl _))
  have hf10 : Flt w10 w8.heap.size (paE s.data.toList) (paP s.data.toList) := hf.kept g10 (by simp; omega)
  exact bodyPost_ret (results_blk_tmp rfl rfl HA10 (by kernel_rfl) (by kernel_rfl)) rfl ⟨_, rfl, hf10, B10⟩

set_option maxHeartbeats 3200000 in
theorem paRead_other_f (s : ByteArray) (w : World) (hs : s.size ≤ 300) (hn : paN s.data.toList ≠ 1) (hn2 : paN s.data.toList ≠ 257) (hz : (pa9 s.data.toList).1 = false) :
    Calls Tryd.prog 29 #[.string s] w fun e w' => ∃ q, e = .returned (.tuple #[.agg (paC zPa), .iface 105 (.pointer (some ⟨q, 0, none⟩))]) ∧ Flt w' q (paE s.data.toList) (paP s.data.toList) ∧ Below w.heap.size w w' := by
  have hL : s.data.toList.length = s.size := by simp
  have hb : 0 + s.size ≤ 281474976710656 := by omega
  have l1 : (pa1 s.data.toList).2.1 ≤ s.size := by have := pa1_le s.data.toList; omega
  have lS : (paS s.data.toList).1 ≤ s.size := by have := paS_le s.data.toList; omega
  have HA0 := Blk.new w 54 (paC zPa)
  have B0 : Below w.heap.size w (w.alloc (.cells (paC zPa) 54)) := (Below.refl _ _).alloc (Nat.le_refl _) _
  have hS : paS s.data.toList = flR (pa1 s.data.toList).2 3 0 := by unfold paS; rw [if_neg hn, if_neg hn2]
  obtain ⟨n, hv, hn1, hn257⟩ : ∃ n : Nat, (beN (tkN s.data.toList 0 (0, 0, -1) 2 true).1 : Int) = (n : Int) ∧ ((n : Int) == 1) = false ∧ ((n : Int) == 257) = false := ⟨paN s.data.toList, rfl, by simp; omega, by simp; omega⟩
  clear hn hn2
  go_enter Tryd.func29, Tryd.ntmps29
  go_upto_region 1 with (refine alloc_blk 54 (paC zPa) (by rfl) rfl Tryd.paZero ?_)
  generalize w.alloc (.cells (paC zPa) 54) = w1 at *
  have hA1 := HA0.lt
  go_wp2_with fail
  refine (new_t s 0 _).mono ?_
  rintro e w2 ⟨rfl, HR2, b2⟩
  have HR3 := HR2.below ((Below.refl _ _).alloc (Nat.le_refl _) (.cells (paC zPa) 54))
  have HA3 := (HA0.kept b2).alloc (.cells (paC zPa) 54)
  have HV3 := Blk.new w2 54 (paC zPa)
  have B2 := B0.trans (b2.mono B0.size)
  have B3 := B2.alloc B2.size (.cells (paC zPa) 54)
  have hg3 := HR2.lt
  have hv3 : w.heap.size < w2.heap.size := (HA0.kept b2).lt
  generalize w1.heap.size = g at *
  clear HA0 B0 b2 HR2 B2
  go_upto_region 3 with (refine alloc_blk 54 (paC zPa) (by rfl) rfl Tryd.paZero ?_)
  generalize w2.alloc (.cells (paC zPa) 54) = w3 at *
  generalize w2.heap.size = v at *
  go_wp2_with fail
  refine (num2_t (0, 0, -1) _ HR3 (Nat.zero_le _) hb).mono ?_
  rintro e w4 ⟨rfl, HR4', g4⟩
  have HR4 : RdT w4 g s 0 (pa1 s.data.toList).2 := HR4'
  have HA4 := HA3.reads HR3 (by decide : 54 ≠ 115) g4
  have HV4 := HV3.reads HR3 (by decide : 54 ≠ 115) g4
  have B4 := grown_belowA B3 g4 B3.size (by omega)
  rw [hv]
  clear HR3 HR4' HA3 HV3 B3 g4 hv
  go_wp2_with fail
  refine (fail_t (pa1 s.data.toList).2 3 0 (by decide) _ HR4).mono ?_
  rintro e w7 ⟨rfl, HR7', g7⟩
  have HR7 : RdT w7 g s 0 (paS s.data.toList) := by rw [hS]; exact HR7'
  have HA7 := HA4.reads HR4 (by decide : 54 ≠ 115) g7
  have HV7 := HV4.reads HR4 (by decide : 54 ≠ 115) g7
  have B7 := grown_belowA B4 g7 B4.size (by omega)
  clear HR4 HR7' HA4 HV4 B4 g7 hS
  go_wp2_with fail
  refine (zeros_t (paS s.data.toList) _ HR7 lS hb).mono ?_
  rintro e w8 ⟨rfl, HR8', g8⟩
  have HR8 : RdT w8 g s 0 (pa9 s.data.toList).2 := HR8'
  have HA8 := HA7.reads HR7 (by decide : 54 ≠ 115) g8
  have HV8 := HV7.reads HR7 (by decide : 54 ≠ 115) g8
  have B8 := grown_belowA B7 g8 B7.size (by omega)
  rw [show (zrR s.data.toList 0 (paS s.data.toList)).1 = false from hz]
  clear HR7 HR8' HA7 HV7 B7 g8
  go_wp2_with (refine build_blk (t := 54) (paC zPa) (by rfl) rfl (by kernel_rfl) ?_)
  refine (err_t (pa9 s.data.toList).2 _ HR8 (zrR_no _ _ _ hz)).mono ?_
  rintro e w9 ⟨rfl, hf, b9⟩
  have HA9 := HA8.kept b9
  have hlt9 : w.heap.size < w8.heap.size := HA8.lt
  have B9 := B8.trans (b9.mono B8.size)
  clear HR8 HA8 HV8 B8 b9
  go_wp2_with (refine store_blk (k := 0) 54 (.agg (paC zPa)) (paC zPa) (by rfl) rfl rfl rfl HA9 (by kernel_rfl) (by exact Nat.le_refl 10) rfl rfl (fun w10 HA10 b10 g10 => ?_))
  have B10 := B9.trans (b10.mono (Nat.le_refl _))
  have hf10 : Flt w10 w8.heap.size (paE s.data.toList) (paP s.data.toList) := hf.kept g10 (by simp; omega)
  exact bodyPost_ret (results_blk_tmp rfl rfl HA10 (by kernel_rfl) (by kernel_rfl)) rfl ⟨_, rfl, hf10, B10⟩

theorem paE_ne (l : List UInt8) (h : (pa9 l).1 = false) : paE l ≠ 0 := zrR_no _ _ _ h
theorem paK_good (l : List UInt8) (h1 : (pa1 l).2.2 = (0, -1) ∨ (pa1 l).2.2.1 ≠ 0) : ∀ k, (paK l k).2.1 = 0 → (paK l k).2 = (0, -1) ∧ (pa1 l).2.2 = (0, -1)
  | 0, h => by
    have h : (pa3 l).2.1 = 0 := h
    show (pa3 l).2 = _ ∧ _
    unfold pa3 at h ⊢
    split at h
    · exact absurd h (flR_ne _ _ _ (by decide))
    · rename_i q
      rw [if_neg q]
      have e2 := tkN_ok l 0 (pa1 l).2 2 true h
      rcases h1 with h1 | h1
      · exact ⟨by rw [show (pa2 l).2 = _ from congrArg Prod.snd e2.2.2]; exact h1, h1⟩
      · exact absurd e2.1 h1
  | k + 1, h => by
    have e2 := tkN_ok l 0 (paK l k) 2 true h
    have ih := paK_good l h1 k e2.1
    exact ⟨by show (tkN l 0 (paK l k) (2 : Nat) true).2.2 = _; rw [e2.2.2]; exact ih.1, ih.2⟩
theorem pa1_good (l : List UInt8) : (pa1 l).2.2 = (0, -1) ∨ (pa1 l).2.2.1 ≠ 0 := by
  by_cases q : 2 ≤ l.length
  · have e1 : pa1 l = ((l.drop 0).take 2, 2, 0, -1) := tkN_go l 0 (0, 0, -1) 2 true rfl (by simpa using q) (by simp)
    rw [e1]
    exact Or.inl rfl
  · have e1 : pa1 l = ([], 0, 7, 0) := tkN_miss l 0 (0, 0, -1) 2 true rfl (by simpa using q) (Nat.zero_le _) (by simp)
    rw [e1]
    exact Or.inr (show (7 : Int) ≠ 0 by decide)
theorem pa_good (l : List UInt8) (h : (pa9 l).1 = true) : paE l = 0 ∧ paP l = -1 ∧ (paN l = 1 ∨ paN l = 257) := by
  have h8 := zrR_yes _ _ _ h
  have e9 : (pa9 l).2.2 = (paS l).2 := by show (zrR l 0 (paS l)).2.2 = _; rw [h8.2.2]
  have hS := h8.1
  have key : (paS l).2 = (0, -1) ∧ (paN l = 1 ∨ paN l = 257) := by
    unfold paS at hS ⊢
    by_cases q : paN l = 1
    · rw [if_pos q] at hS ⊢
      have e2 := tkN_ok l 0 (pa1 l).2 2 true hS
      refine ⟨?_, Or.inl q⟩
      rw [show (pa2 l).2 = _ from congrArg Prod.snd e2.2.2]
      rcases pa1_good l with h1 | h1
      · exact h1
      · exact absurd e2.1 h1
    · rw [if_neg q] at hS ⊢
      by_cases q2 : paN l = 257
      · rw [if_pos q2] at hS ⊢
        exact ⟨(paK_good l (pa1_good l) 8 hS).1, Or.inr q2⟩
      · rw [if_neg q2] at hS
        exact absurd hS (flR_ne _ _ _ (by decide))
  unfold paE paP
  rw [e9, key.1]
  exact ⟨rfl, rfl, key.2⟩

theorem paRead_any (s : ByteArray) (w : World) (hs : s.size ≤ 300) :
    Calls Tryd.prog 29 #[.string s] w (ReadsAs (paC (paRes s.data.toList)) (paE s.data.toList) (paP s.data.toList) w) := by
  cases hz : (pa9 s.data.toList).1 with
  | true =>
    obtain ⟨e1, e2, hn⟩ := pa_good _ hz
    have e3 : paRes s.data.toList = paOf s.data.toList := by unfold paRes; rw [hz]; rfl
    rw [e1, e2, e3]
    rcases hn with hn | hn
    · rw [show paOf s.data.toList = paAll (paV s.data.toList) from if_pos hn]
      exact (paRead_all_t s w hs hn hz).mono fun e w' h => ⟨_, h.1, ErrAs.nil, h.2⟩
    · rw [show paOf s.data.toList = paAll8 s.data.toList from if_neg (by rw [hn]; decide)]
      exact (paRead_class_t s w hs hn hz).mono fun e w' h => ⟨_, h.1, ErrAs.nil, h.2⟩
  | false =>
    have hne := paE_ne _ hz
    have e3 : paRes s.data.toList = zPa := by unfold paRes; rw [hz]; rfl
    rw [e3]
    have fin : ∀ e w', (∃ q, e = Ending.returned (.tuple #[.agg (paC zPa), .iface 105 (.pointer (some ⟨q, 0, none⟩))]) ∧ Flt w' q (paE s.data.toList) (paP s.data.toList) ∧ Below w.heap.size w w') → ReadsAs (paC zPa) (paE s.data.toList) (paP s.data.toList) w e w' := fun e w' ⟨q, h1, h2, h3⟩ => ⟨_, h1, Or.inr ⟨hne, q, rfl, h2⟩, h3⟩
    by_cases hn : paN s.data.toList = 1
    · exact (paRead_all_f s w hs hn hz).mono fin
    · by_cases hn2 : paN s.data.toList = 257
      · exact (paRead_class_f s w hs hn2 hz).mono fin
      · exact (paRead_other_f s w hs hn hn2 hz).mono fin

end Go.Proofs.YtnldggbhhbndfaaDoor
