/- switchyardkeep.PauseBack: every message and every text: true, and what was there is as it was. -/
import Derived.Test.YtnldggbhhbndfaaDoorPaused
import Derived.Test.YtnldggbhhbndfaaDoorShelf
import Derived.Test.YtnldggbhhbndfaaDoorNum2
namespace Go.Proofs.YtnldggbhhbndfaaDoor.pauseBack
open Go.RowKit
attribute [local go_sem ↓] Go.wp_at_zero Go.wp_at_succ
set_option linter.unusedSimpArgs false
set_option linter.unusedVariables false
set_option maxRecDepth 100000


set_option maxHeartbeats 3200000 in
theorem walk_r_long (a : Pa) (s : ByteArray) (w : World) (hR : paRight a = true) (u : ByteArray) (HWa : Hid (∀ W, Calls Tryd.prog 25 #[.agg (paC a)] W fun e w' => e = .returned (.tuple #[.string u, .nilIface]) ∧ Below W.heap.size W w')) (HRa : Hid (∀ W, Calls Tryd.prog 29 #[.string u] W fun e w' => e = .returned (.tuple #[.agg (paC a), .nilIface]) ∧ Below W.heap.size W w')) (hs : decide ((300 : Int) < (s.size : Int)) = true) :
    Calls Tryd.prog 9 #[.agg (paC a), .string s] w fun e w' => e = .returned (.bool true) ∧ Below w.heap.size w w' := by
  have HA := Blk.new w 54 (paC a)
  have hb0 : Below w.heap.size w (w.alloc (.cells (paC a) 54)) := (Below.refl _ _).alloc (Nat.le_refl _) _
  have HR := Lib.hid hR
  clear hR
  go_enter Tryd.func9, Tryd.ntmps9
  go_upto_region 1 with (fail)
  generalize w.alloc (.cells (paC a) 54) = w1 at *
  go_wp2_with fail
  refine (paused_any _).mono ?_
  rintro e w2 ⟨rfl, b2⟩
  have HA2 := HA.kept b2
  have B2 := hb0.trans (b2.mono hb0.size)
  clear HA hb0 b2
  go_wp2_with (refine load_blk (k := 0) 54 (paC a) (by rfl) rfl rfl HA2 (by kernel_rfl) (by kernel_rfl) rfl ?_)
  refine (paRight_any a _).mono ?_
  rintro e w3 ⟨rfl, b3⟩
  have HA3 := HA2.kept b3
  have B3 := B2.trans (b3.mono B2.size)
  rw [HR.out]
  clear HA2 B2 b3
  go_wp2_with (refine load_blk (k := 0) 54 (paC a) (by rfl) rfl rfl HA3 (by kernel_rfl) (by kernel_rfl) rfl ?_)
  refine (HWa.out _).mono ?_
  rintro e w4 ⟨rfl, b4⟩
  have HA4 := HA3.kept b4
  have B4 := B3.trans (b4.mono B3.size)
  clear HA3 B3 b4 HWa
  go_wp2_with fail
  refine (HRa.out _).mono ?_
  rintro e w5 ⟨rfl, b5⟩
  have HA5 := (HA4.kept b5).alloc (.cells (paC zPa) 54)
  have B5a := B4.trans (b5.mono B4.size)
  have B5 := B5a.alloc B5a.size (.cells (paC zPa) 54)
  have HZ5 := Blk.new w5 54 (paC zPa)
  have hlt : w.heap.size < w5.heap.size := (HA4.kept b5).lt
  clear HA4 B4 b5 B5a HRa
  go_upto_region 6 with (first | (refine alloc_blk 54 (paC zPa) (by rfl) rfl Tryd.paZero ?_) | (refine store_blk (k := 0) 54 (.agg (paC a)) (paC a) (by rfl) rfl rfl rfl HZ5 (by kernel_rfl) (by exact Nat.le_refl 10) rfl rfl (fun w6 HB6 b6 g6 => ?_)))
  have HA6 := HA5.grown g6 (by simp; omega)
  have B6 := B5.trans (b6.mono (Nat.le_of_lt hlt))
  clear HA5 HZ5 B5 b6 g6 hlt
  go_upto_region 8 with (first | (refine load_blk (k := 0) 54 (paC a) (by rfl) rfl rfl HB6 (by kernel_rfl) (by kernel_rfl) rfl ?_) | (refine load_blk (k := 0) 54 (paC a) (by rfl) rfl rfl HA6 (by kernel_rfl) (by kernel_rfl) rfl ?_) | (refine eq_blk .neq 54 (paC a) (paC a) true (by rfl) rfl (by first | exact Or.inl rfl | exact Or.inr rfl) rfl rfl Tryd.paGuard ((by have h := run_eql_pa a a; rw [eqPa_refl] at h; exact h _)) ?_))
  clear HA6 HB6
  go_wp2
  go_ret
  exact ⟨rfl, B6⟩

set_option maxHeartbeats 3200000 in
theorem walk_r_bad (a : Pa) (s : ByteArray) (w : World) (hR : paRight a = true) (u : ByteArray) (HWa : Hid (∀ W, Calls Tryd.prog 25 #[.agg (paC a)] W fun e w' => e = .returned (.tuple #[.string u, .nilIface]) ∧ Below W.heap.size W w')) (HRa : Hid (∀ W, Calls Tryd.prog 29 #[.string u] W fun e w' => e = .returned (.tuple #[.agg (paC a), .nilIface]) ∧ Below W.heap.size W w')) (hs : decide ((300 : Int) < (s.size : Int)) = false) (HRs : Hid (∀ W, Calls Tryd.prog 29 #[.string s] W fun e w' => ∃ q, e = .returned (.tuple #[.agg (paC zPa), .iface 105 (.pointer (some ⟨q, 0, none⟩))]) ∧ Below W.heap.size W w')) :
    Calls Tryd.prog 9 #[.agg (paC a), .string s] w fun e w' => e = .returned (.bool true) ∧ Below w.heap.size w w' := by
  have HA := Blk.new w 54 (paC a)
  have hb0 : Below w.heap.size w (w.alloc (.cells (paC a) 54)) := (Below.refl _ _).alloc (Nat.le_refl _) _
  have HR := Lib.hid hR
  clear hR
  go_enter Tryd.func9, Tryd.ntmps9
  go_upto_region 1 with (fail)
  generalize w.alloc (.cells (paC a) 54) = w1 at *
  go_wp2_with fail
  refine (paused_any _).mono ?_
  rintro e w2 ⟨rfl, b2⟩
  have HA2 := HA.kept b2
  have B2 := hb0.trans (b2.mono hb0.size)
  clear HA hb0 b2
  go_wp2_with (refine load_blk (k := 0) 54 (paC a) (by rfl) rfl rfl HA2 (by kernel_rfl) (by kernel_rfl) rfl ?_)
  refine (paRight_any a _).mono ?_
  rintro e w3 ⟨rfl, b3⟩
  have HA3 := HA2.kept b3
  have B3 := B2.trans (b3.mono B2.size)
  rw [HR.out]
  clear HA2 B2 b3
  go_wp2_with (refine load_blk (k := 0) 54 (paC a) (by rfl) rfl rfl HA3 (by kernel_rfl) (by kernel_rfl) rfl ?_)
  refine (HWa.out _).mono ?_
  rintro e w4 ⟨rfl, b4⟩
  have HA4 := HA3.kept b4
  have B4 := B3.trans (b4.mono B3.size)
  clear HA3 B3 b4 HWa
  go_wp2_with fail
  refine (HRa.out _).mono ?_
  rintro e w5 ⟨rfl, b5⟩
  have HA5 := (HA4.kept b5).alloc (.cells (paC zPa) 54)
  have B5a := B4.trans (b5.mono B4.size)
  have B5 := B5a.alloc B5a.size (.cells (paC zPa) 54)
  have HZ5 := Blk.new w5 54 (paC zPa)
  have hlt : w.heap.size < w5.heap.size := (HA4.kept b5).lt
  clear HA4 B4 b5 B5a HRa
  go_upto_region 6 with (first | (refine alloc_blk 54 (paC zPa) (by rfl) rfl Tryd.paZero ?_) | (refine store_blk (k := 0) 54 (.agg (paC a)) (paC a) (by rfl) rfl rfl rfl HZ5 (by kernel_rfl) (by exact Nat.le_refl 10) rfl rfl (fun w6 HB6 b6 g6 => ?_)))
  have HA6 := HA5.grown g6 (by simp; omega)
  have B6 := B5.trans (b6.mono (Nat.le_of_lt hlt))
  clear HA5 HZ5 B5 b6 g6 hlt
  go_upto_region 8 with (first | (refine load_blk (k := 0) 54 (paC a) (by rfl) rfl rfl HB6 (by kernel_rfl) (by kernel_rfl) rfl ?_) | (refine load_blk (k := 0) 54 (paC a) (by rfl) rfl rfl HA6 (by kernel_rfl) (by kernel_rfl) rfl ?_) | (refine eq_blk .neq 54 (paC a) (paC a) true (by rfl) rfl (by first | exact Or.inl rfl | exact Or.inr rfl) rfl rfl Tryd.paGuard ((by have h := run_eql_pa a a; rw [eqPa_refl] at h; exact h _)) ?_))
  clear HA6 HB6
  go_wp2_with fail
  refine (HRs.out _).mono ?_
  rintro e w7 ⟨q, rfl, b7⟩
  have B7a := B6.trans (b7.mono B6.size)
  have B7 := B7a.alloc B7a.size (.cells (paC zPa) 54)
  have HZ7 := Blk.new w7 54 (paC zPa)
  have hs7 := B7a.size
  clear B6 b7 B7a HRs
  go_wp2_with (first | (refine alloc_blk 54 (paC zPa) (by rfl) rfl Tryd.paZero ?_) | (refine store_blk (k := 0) 54 (.agg (paC zPa)) (paC zPa) (by rfl) rfl rfl rfl HZ7 (by kernel_rfl) (by exact Nat.le_refl 10) rfl rfl (fun w8 HZ8 b8 g8 => ?_)) | (refine load_blk (k := 0) 54 (paC zPa) (by rfl) rfl rfl HZ8 (by kernel_rfl) (by kernel_rfl) rfl ?_) | (refine build_blk (t := 54) (paC zPa) (by rfl) rfl (by kernel_rfl) ?_) | (refine eq_blk .eql 54 (paC zPa) (paC zPa) true (by rfl) rfl (by first | exact Or.inl rfl | exact Or.inr rfl) rfl rfl Tryd.paGuard ((by have h := run_eql_pa zPa zPa; rw [eqPa_refl] at h; exact h _)) ?_))
  go_ret
  exact ⟨rfl, B7.trans (b8.mono hs7)⟩

set_option maxHeartbeats 3200000 in
theorem walk_r_ok (a : Pa) (s : ByteArray) (w : World) (hR : paRight a = true) (u : ByteArray) (HWa : Hid (∀ W, Calls Tryd.prog 25 #[.agg (paC a)] W fun e w' => e = .returned (.tuple #[.string u, .nilIface]) ∧ Below W.heap.size W w')) (HRa : Hid (∀ W, Calls Tryd.prog 29 #[.string u] W fun e w' => e = .returned (.tuple #[.agg (paC a), .nilIface]) ∧ Below W.heap.size W w')) (hs : decide ((300 : Int) < (s.size : Int)) = false) (b : Pa) (t v : ByteArray) (HRs : Hid (∀ W, Calls Tryd.prog 29 #[.string s] W fun e w' => e = .returned (.tuple #[.agg (paC b), .nilIface]) ∧ Below W.heap.size W w')) (HWs : Hid (∀ W, Calls Tryd.prog 25 #[.agg (paC b)] W fun e w' => e = .returned (.tuple #[.string t, .nilIface]) ∧ Below W.heap.size W w')) (HP : Hid (∀ W, Calls Tryd.prog 20 #[.string s, .string t] W fun e w' => e = .returned (.bool true) ∧ Below W.heap.size W w')) (ht : t.size ≤ s.size) (HT : Hid (∀ W, Calls Tryd.prog 21 #[.string (s.extract t.size s.size), .string ⟨#[0]⟩] W fun e w' => e = .returned (.string ⟨#[]⟩) ∧ Below W.heap.size W w')) (HRo : Hid (∀ W, Calls Tryd.prog 26 #[.agg (paC b)] W fun e w' => e = .returned (.bool true) ∧ Below W.heap.size W w')) :
    Calls Tryd.prog 9 #[.agg (paC a), .string s] w fun e w' => e = .returned (.bool true) ∧ Below w.heap.size w w' := by
  have HA := Blk.new w 54 (paC a)
  have hb0 : Below w.heap.size w (w.alloc (.cells (paC a) 54)) := (Below.refl _ _).alloc (Nat.le_refl _) _
  have HR := Lib.hid hR
  clear hR
  go_enter Tryd.func9, Tryd.ntmps9
  go_upto_region 1 with (fail)
  generalize w.alloc (.cells (paC a) 54) = w1 at *
  go_wp2_with fail
  refine (paused_any _).mono ?_
  rintro e w2 ⟨rfl, b2⟩
  have HA2 := HA.kept b2
  have B2 := hb0.trans (b2.mono hb0.size)
  clear HA hb0 b2
  go_wp2_with (refine load_blk (k := 0) 54 (paC a) (by rfl) rfl rfl HA2 (by kernel_rfl) (by kernel_rfl) rfl ?_)
  refine (paRight_any a _).mono ?_
  rintro e w3 ⟨rfl, b3⟩
  have HA3 := HA2.kept b3
  have B3 := B2.trans (b3.mono B2.size)
  rw [HR.out]
  clear HA2 B2 b3
  go_wp2_with (refine load_blk (k := 0) 54 (paC a) (by rfl) rfl rfl HA3 (by kernel_rfl) (by kernel_rfl) rfl ?_)
  refine (HWa.out _).mono ?_
  rintro e w4 ⟨rfl, b4⟩
  have HA4 := HA3.kept b4
  have B4 := B3.trans (b4.mono B3.size)
  clear HA3 B3 b4 HWa
  go_wp2_with fail
  refine (HRa.out _).mono ?_
  rintro e w5 ⟨rfl, b5⟩
  have HA5 := (HA4.kept b5).alloc (.cells (paC zPa) 54)
  have B5a := B4.trans (b5.mono B4.size)
  have B5 := B5a.alloc B5a.size (.cells (paC zPa) 54)
  have HZ5 := Blk.new w5 54 (paC zPa)
  have hlt : w.heap.size < w5.heap.size := (HA4.kept b5).lt
  clear HA4 B4 b5 B5a HRa
  go_upto_region 6 with (first | (refine alloc_blk 54 (paC zPa) (by rfl) rfl Tryd.paZero ?_) | (refine store_blk (k := 0) 54 (.agg (paC a)) (paC a) (by rfl) rfl rfl rfl HZ5 (by kernel_rfl) (by exact Nat.le_refl 10) rfl rfl (fun w6 HB6 b6 g6 => ?_)))
  have HA6 := HA5.grown g6 (by simp; omega)
  have B6 := B5.trans (b6.mono (Nat.le_of_lt hlt))
  clear HA5 HZ5 B5 b6 g6 hlt
  go_upto_region 8 with (first | (refine load_blk (k := 0) 54 (paC a) (by rfl) rfl rfl HB6 (by kernel_rfl) (by kernel_rfl) rfl ?_) | (refine load_blk (k := 0) 54 (paC a) (by rfl) rfl rfl HA6 (by kernel_rfl) (by kernel_rfl) rfl ?_) | (refine eq_blk .neq 54 (paC a) (paC a) true (by rfl) rfl (by first | exact Or.inl rfl | exact Or.inr rfl) rfl rfl Tryd.paGuard ((by have h := run_eql_pa a a; rw [eqPa_refl] at h; exact h _)) ?_))
  clear HA6 HB6
  go_wp2_with fail
  refine (HRs.out _).mono ?_
  rintro e w7 ⟨rfl, b7⟩
  have B7a := B6.trans (b7.mono B6.size)
  have B7 := B7a.alloc B7a.size (.cells (paC zPa) 54)
  have HZ7 := Blk.new w7 54 (paC zPa)
  have hs7 := B7a.size
  clear B6 b7 B7a HRs
  go_wp2_with (first | (refine alloc_blk 54 (paC zPa) (by rfl) rfl Tryd.paZero ?_) | (refine store_blk (k := 0) 54 (.agg (paC b)) (paC b) (by rfl) rfl rfl rfl HZ7 (by kernel_rfl) (by exact Nat.le_refl 10) rfl rfl (fun w8 HZ8 b8 g8 => ?_)) | (refine load_blk (k := 0) 54 (paC b) (by rfl) rfl rfl HZ8 (by kernel_rfl) (by kernel_rfl) rfl ?_))
  refine (HWs.out _).mono ?_
  rintro e w9 ⟨rfl, b9⟩
  have B8 := B7.trans (b8.mono hs7)
  have B9a := B8.trans (b9.mono B8.size)
  have HZ9 := HZ8.kept b9
  clear HZ7 HZ8 B7 b8 g8 B8 b9 HWs hs7
  go_wp2_with (refine load_blk (k := 0) 54 (paC b) (by rfl) rfl rfl HZ9 (by kernel_rfl) (by kernel_rfl) rfl ?_)
  refine (HRo.out _).mono ?_
  rintro e w9b ⟨rfl, b9b⟩
  have B9 := B9a.trans (b9b.mono B9a.size)
  clear HZ9 B9a b9b HRo
  go_wp2_with fail
  refine (HP.out _).mono ?_
  rintro e w10 ⟨rfl, b10⟩
  have B10 := B9.trans (b10.mono B9.size)
  clear B9 b10 HP
  go_wp2_with fail
  refine (HT.out _).mono ?_
  rintro e w11 ⟨rfl, b11⟩
  have B11 := B10.trans (b11.mono B10.size)
  go_wp2
  go_ret
  exact ⟨rfl, B11⟩

set_option maxHeartbeats 3200000 in
theorem walk_n_long (a : Pa) (s : ByteArray) (w : World) (hR : paRight a = false) (hs : decide ((300 : Int) < (s.size : Int)) = true) :
    Calls Tryd.prog 9 #[.agg (paC a), .string s] w fun e w' => e = .returned (.bool true) ∧ Below w.heap.size w w' := by
  have HA := Blk.new w 54 (paC a)
  have hb0 : Below w.heap.size w (w.alloc (.cells (paC a) 54)) := (Below.refl _ _).alloc (Nat.le_refl _) _
  have HR := Lib.hid hR
  clear hR
  go_enter Tryd.func9, Tryd.ntmps9
  go_upto_region 1 with (fail)
  generalize w.alloc (.cells (paC a) 54) = w1 at *
  go_wp2_with fail
  refine (paused_any _).mono ?_
  rintro e w2 ⟨rfl, b2⟩
  have HA2 := HA.kept b2
  have B2 := hb0.trans (b2.mono hb0.size)
  clear HA hb0 b2
  go_wp2_with (refine load_blk (k := 0) 54 (paC a) (by rfl) rfl rfl HA2 (by kernel_rfl) (by kernel_rfl) rfl ?_)
  refine (paRight_any a _).mono ?_
  rintro e w3 ⟨rfl, b3⟩
  have HA3 := HA2.kept b3
  have B3 := B2.trans (b3.mono B2.size)
  rw [HR.out]
  clear HA2 B2 b3
  go_upto_region 8 with (fail)
  have B6 := B3
  generalize w3 = w6 at *
  clear HA3 B3
  go_wp2
  go_ret
  exact ⟨rfl, B6⟩

set_option maxHeartbeats 3200000 in
theorem walk_n_bad (a : Pa) (s : ByteArray) (w : World) (hR : paRight a = false) (hs : decide ((300 : Int) < (s.size : Int)) = false) (HRs : Hid (∀ W, Calls Tryd.prog 29 #[.string s] W fun e w' => ∃ q, e = .returned (.tuple #[.agg (paC zPa), .iface 105 (.pointer (some ⟨q, 0, none⟩))]) ∧ Below W.heap.size W w')) :
    Calls Tryd.prog 9 #[.agg (paC a), .string s] w fun e w' => e = .returned (.bool true) ∧ Below w.heap.size w w' := by
  have HA := Blk.new w 54 (paC a)
  have hb0 : Below w.heap.size w (w.alloc (.cells (paC a) 54)) := (Below.refl _ _).alloc (Nat.le_refl _) _
  have HR := Lib.hid hR
  clear hR
  go_enter Tryd.func9, Tryd.ntmps9
  go_upto_region 1 with (fail)
  generalize w.alloc (.cells (paC a) 54) = w1 at *
  go_wp2_with fail
  refine (paused_any _).mono ?_
  rintro e w2 ⟨rfl, b2⟩
  have HA2 := HA.kept b2
  have B2 := hb0.trans (b2.mono hb0.size)
  clear HA hb0 b2
  go_wp2_with (refine load_blk (k := 0) 54 (paC a) (by rfl) rfl rfl HA2 (by kernel_rfl) (by kernel_rfl) rfl ?_)
  refine (paRight_any a _).mono ?_
  rintro e w3 ⟨rfl, b3⟩
  have HA3 := HA2.kept b3
  have B3 := B2.trans (b3.mono B2.size)
  rw [HR.out]
  clear HA2 B2 b3
  go_upto_region 8 with (fail)
  have B6 := B3
  generalize w3 = w6 at *
  clear HA3 B3
  go_wp2_with fail
  refine (HRs.out _).mono ?_
  rintro e w7 ⟨q, rfl, b7⟩
  have B7a := B6.trans (b7.mono B6.size)
  have B7 := B7a.alloc B7a.size (.cells (paC zPa) 54)
  have HZ7 := Blk.new w7 54 (paC zPa)
  have hs7 := B7a.size
  clear B6 b7 B7a HRs
  go_wp2_with (first | (refine alloc_blk 54 (paC zPa) (by rfl) rfl Tryd.paZero ?_) | (refine store_blk (k := 0) 54 (.agg (paC zPa)) (paC zPa) (by rfl) rfl rfl rfl HZ7 (by kernel_rfl) (by exact Nat.le_refl 10) rfl rfl (fun w8 HZ8 b8 g8 => ?_)) | (refine load_blk (k := 0) 54 (paC zPa) (by rfl) rfl rfl HZ8 (by kernel_rfl) (by kernel_rfl) rfl ?_) | (refine build_blk (t := 54) (paC zPa) (by rfl) rfl (by kernel_rfl) ?_) | (refine eq_blk .eql 54 (paC zPa) (paC zPa) true (by rfl) rfl (by first | exact Or.inl rfl | exact Or.inr rfl) rfl rfl Tryd.paGuard ((by have h := run_eql_pa zPa zPa; rw [eqPa_refl] at h; exact h _)) ?_))
  go_ret
  exact ⟨rfl, B7.trans (b8.mono hs7)⟩

set_option maxHeartbeats 3200000 in
theorem walk_n_ok (a : Pa) (s : ByteArray) (w : World) (hR : paRight a = false) (hs : decide ((300 : Int) < (s.size : Int)) = false) (b : Pa) (t v : ByteArray) (HRs : Hid (∀ W, Calls Tryd.prog 29 #[.string s] W fun e w' => e = .returned (.tuple #[.agg (paC b), .nilIface]) ∧ Below W.heap.size W w')) (HWs : Hid (∀ W, Calls Tryd.prog 25 #[.agg (paC b)] W fun e w' => e = .returned (.tuple #[.string t, .nilIface]) ∧ Below W.heap.size W w')) (HP : Hid (∀ W, Calls Tryd.prog 20 #[.string s, .string t] W fun e w' => e = .returned (.bool true) ∧ Below W.heap.size W w')) (ht : t.size ≤ s.size) (HT : Hid (∀ W, Calls Tryd.prog 21 #[.string (s.extract t.size s.size), .string ⟨#[0]⟩] W fun e w' => e = .returned (.string ⟨#[]⟩) ∧ Below W.heap.size W w')) (HRo : Hid (∀ W, Calls Tryd.prog 26 #[.agg (paC b)] W fun e w' => e = .returned (.bool true) ∧ Below W.heap.size W w')) :
    Calls Tryd.prog 9 #[.agg (paC a), .string s] w fun e w' => e = .returned (.bool true) ∧ Below w.heap.size w w' := by
  have HA := Blk.new w 54 (paC a)
  have hb0 : Below w.heap.size w (w.alloc (.cells (paC a) 54)) := (Below.refl _ _).alloc (Nat.le_refl _) _
  have HR := Lib.hid hR
  clear hR
  go_enter Tryd.func9, Tryd.ntmps9
  go_upto_region 1 with (fail)
  generalize w.alloc (.cells (paC a) 54) = w1 at *
  go_wp2_with fail
  refine (paused_any _).mono ?_
  rintro e w2 ⟨rfl, b2⟩
  have HA2 := HA.kept b2
  have B2 := hb0.trans (b2.mono hb0.size)
  clear HA hb0 b2
  go_wp2_with (refine load_blk (k := 0) 54 (paC a) (by rfl) rfl rfl HA2 (by kernel_rfl) (by kernel_rfl) rfl ?_)
  refine (paRight_any a _).mono ?_
  rintro e w3 ⟨rfl, b3⟩
  have HA3 := HA2.kept b3
  have B3 := B2.trans (b3.mono B2.size)
  rw [HR.out]
  clear HA2 B2 b3
  go_upto_region 8 with (fail)
  have B6 := B3
  generalize w3 = w6 at *
  clear HA3 B3
  go_wp2_with fail
  refine (HRs.out _).mono ?_
  rintro e w7 ⟨rfl, b7⟩
  have B7a := B6.trans (b7.mono B6.size)
  have B7 := B7a.alloc B7a.size (.cells (paC zPa) 54)
  have HZ7 := Blk.new w7 54 (paC zPa)
  have hs7 := B7a.size
  clear B6 b7 B7a HRs
  go_wp2_with (first | (refine alloc_blk 54 (paC zPa) (by rfl) rfl Tryd.paZero ?_) | (refine store_blk (k := 0) 54 (.agg (paC b)) (paC b) (by rfl) rfl rfl rfl HZ7 (by kernel_rfl) (by exact Nat.le_refl 10) rfl rfl (fun w8 HZ8 b8 g8 => ?_)) | (refine load_blk (k := 0) 54 (paC b) (by rfl) rfl rfl HZ8 (by kernel_rfl) (by kernel_rfl) rfl ?_))
  refine (HWs.out _).mono ?_
  rintro e w9 ⟨rfl, b9⟩
  have B8 := B7.trans (b8.mono hs7)
  have B9a := B8.trans (b9.mono B8.size)
  have HZ9 := HZ8.kept b9
  clear HZ7 HZ8 B7 b8 g8 B8 b9 HWs hs7
  go_wp2_with (refine load_blk (k := 0) 54 (paC b) (by rfl) rfl rfl HZ9 (by kernel_rfl) (by kernel_rfl) rfl ?_)
  refine (HRo.out _).mono ?_
  rintro e w9b ⟨rfl, b9b⟩
  have B9 := B9a.trans (b9b.mono B9a.size)
  clear HZ9 B9a b9b HRo
  go_wp2_with fail
  refine (HP.out _).mono ?_
  rintro e w10 ⟨rfl, b10⟩
  have B10 := B9.trans (b10.mono B9.size)
  clear B9 b10 HP
  go_wp2_with fail
  refine (HT.out _).mono ?_
  rintro e w11 ⟨rfl, b11⟩
  have B11 := B10.trans (b11.mono B10.size)
  go_wp2
  go_ret
  exact ⟨rfl, B11⟩


theorem prefix_take (l : List UInt8) (n : Nat) : Lib.hasPrefix l (l.take n) = true := by
  simp [Lib.hasPrefix, List.take_prefix]

theorem walk (a : Pa) (s : ByteArray) (w : World) :
    Calls Tryd.prog 9 #[.agg (paC a), .string s] w fun e w' => e = .returned (.bool true) ∧ Below w.heap.size w w' := by
  have HL : s.data.toList.length = s.size := by simp
  have w1 : paRight a = true → ∀ W, Calls Tryd.prog 25 #[.agg (paC a)] W fun e w' => e = .returned (.tuple #[.string ⟨(paL a).toArray⟩, .nilIface]) ∧ Below W.heap.size W w' := fun hR W => paWrite_any a W hR
  have r1 : paRight a = true → ∀ W, Calls Tryd.prog 29 #[.string ⟨(paL a).toArray⟩] W fun e w' => e = .returned (.tuple #[.agg (paC a), .nilIface]) ∧ Below W.heap.size W w' := fun hR W => pa_again a hR W
  by_cases hs : s.size ≤ 300
  · have h3 : decide ((300 : Int) < (s.size : Int)) = false := decide_eq_false (by omega)
    cases hz : (pa9 s.data.toList).1 with
    | false =>
      have HRs : ∀ W, Calls Tryd.prog 29 #[.string s] W fun e w' => ∃ q, e = .returned (.tuple #[.agg (paC zPa), .iface 105 (.pointer (some ⟨q, 0, none⟩))]) ∧ Below W.heap.size W w' := fun W => by
        refine (paRead_any s W hs).mono fun e w' h => ?_
        have e3 : paRes s.data.toList = zPa := by unfold paRes; rw [hz]; rfl
        rw [e3] at h
        obtain ⟨q, h1, _, h2⟩ := reads_bad (paE_ne _ hz) h
        exact ⟨q, h1, h2⟩
      cases hR : paRight a with
      | true => exact walk_r_bad a s w hR _ (Lib.hid (w1 hR)) (Lib.hid (r1 hR)) h3 (Lib.hid HRs)
      | false => exact walk_n_bad a s w hR h3 (Lib.hid HRs)
    | true =>
      obtain ⟨n, hn, hop, hL, hns, hzz⟩ := pa_fore s hz
      have hsz : (⟨(s.data.toList.take n).toArray⟩ : ByteArray).size = n := by show (s.data.toList.take n).toArray.size = n; rw [List.size_toArray, List.length_take, HL]; omega
      have HRs : ∀ W, Calls Tryd.prog 29 #[.string s] W fun e w' => e = .returned (.tuple #[.agg (paC (paOf s.data.toList)), .nilIface]) ∧ Below W.heap.size W w' := fun W => by
        refine (paRead_any s W hs).mono fun e w' h => ?_
        have e3 : paRes s.data.toList = paOf s.data.toList := by unfold paRes; rw [hz]; rfl
        rw [e3, (pa_good _ hz).1] at h
        exact reads_ok h
      have HWs : ∀ W, Calls Tryd.prog 25 #[.agg (paC (paOf s.data.toList))] W fun e w' => e = .returned (.tuple #[.string ⟨(s.data.toList.take n).toArray⟩, .nilIface]) ∧ Below W.heap.size W w' := fun W => by
        have h := paWrite_any (paOf s.data.toList) W hop
        rw [hL] at h
        exact h
      have HP : ∀ W, Calls Tryd.prog 20 #[.string s, .string ⟨(s.data.toList.take n).toArray⟩] W fun e w' => e = .returned (.bool true) ∧ Below W.heap.size W w' := fun W => by
        refine (Tryd.strings_HasPrefix s ⟨(s.data.toList.take n).toArray⟩ W).mono ?_
        rintro e w' ⟨rfl, rfl⟩
        exact ⟨by rw [show (⟨(s.data.toList.take n).toArray⟩ : ByteArray).data.toList = s.data.toList.take n from rfl, prefix_take], Below.refl _ _⟩
      have htr : Lib.trimB (s.extract (⟨(s.data.toList.take n).toArray⟩ : ByteArray).size s.size).data.toList 0 = [] := by
        rw [hsz, Lib.extract_to_end, trim_nil_iff]
        intro b hb
        obtain ⟨j, hj, hjb⟩ := List.getElem_of_mem hb
        rw [List.getElem_drop] at hjb
        have hj2 : n + j < s.data.toList.length := by rw [List.length_drop] at hj; omega
        exact hzz (n + j) b (by omega) (by rw [List.getElem?_eq_getElem hj2, hjb])
      have HT : ∀ W, Calls Tryd.prog 21 #[.string (s.extract (⟨(s.data.toList.take n).toArray⟩ : ByteArray).size s.size), .string ⟨#[0]⟩] W fun e w' => e = .returned (.string ⟨#[]⟩) ∧ Below W.heap.size W w' := fun W => by
        refine (Tryd.strings_Trim_one _ 0 (by decide) W (by rw [ByteArray.size_extract]; omega)).mono ?_
        rintro e w' ⟨rfl, hw⟩
        rw [htr]
        refine ⟨rfl, ?_⟩
        rcases hw with rfl | rfl
        · exact Below.refl _ _
        · exact (Below.refl _ _).drew
      have HRo : ∀ W, Calls Tryd.prog 26 #[.agg (paC (paOf s.data.toList))] W fun e w' => e = .returned (.bool true) ∧ Below W.heap.size W w' := fun W => by
        have h := paRight_any (paOf s.data.toList) W
        rw [hop] at h
        exact h
      cases hR : paRight a with
      | true => exact walk_r_ok a s w hR _ (Lib.hid (w1 hR)) (Lib.hid (r1 hR)) h3 _ _ ⟨#[]⟩ (Lib.hid HRs) (Lib.hid HWs) (Lib.hid HP) (by rw [hsz]; exact hns) (Lib.hid HT) (Lib.hid HRo)
      | false => exact walk_n_ok a s w hR h3 _ _ ⟨#[]⟩ (Lib.hid HRs) (Lib.hid HWs) (Lib.hid HP) (by rw [hsz]; exact hns) (Lib.hid HT) (Lib.hid HRo)
  · have h3 : decide ((300 : Int) < (s.size : Int)) = true := decide_eq_true (by omega)
    cases hR : paRight a with
    | true => exact walk_r_long a s w hR _ (Lib.hid (w1 hR)) (Lib.hid (r1 hR)) h3
    | false => exact walk_n_long a s w hR h3

end Go.Proofs.YtnldggbhhbndfaaDoor.pauseBack
