/- switchyardkeep.ArpBack: every message and every text: true, and what was there is as it was. -/
import Derived.Test.YtjoepmfineinfaaDoorAsked
import Derived.Test.YtjoepmfineinfaaDoorShelf
import Derived.Test.YtjoepmfineinfaaDoorNum2
namespace Go.Proofs.YtjoepmfineinfaaDoor.arpBack
open Go.RowKit
attribute [local go_sem ↓] Go.wp_at_zero Go.wp_at_succ
set_option linter.unusedSimpArgs false
set_option linter.unusedVariables false
set_option maxRecDepth 100000


set_option maxHeartbeats 3200000 in
theorem walk_r_long (a : Ar) (s : ByteArray) (w : World) (hR : arRight a = true) (u : ByteArray) (hu : ((u.size : Int) != 28) = false) (HWa : Hid (∀ W, Calls Tryd.prog 13 #[.agg (arC a)] W fun e w' => e = .returned (.tuple #[.string u, .nilIface]) ∧ Below W.heap.size W w')) (HRa : Hid (∀ W, Calls Tryd.prog 9 #[.string u] W fun e w' => e = .returned (.tuple #[.agg (arC a), .nilIface]) ∧ Below W.heap.size W w')) (hs : decide ((300 : Int) < (s.size : Int)) = true) :
    Calls Tryd.prog 4 #[.agg (arC a), .string s] w fun e w' => e = .returned (.bool true) ∧ Below w.heap.size w w' := by
  have HA := Blk.new w 26 (arC a)
  have hb0 : Below w.heap.size w (w.alloc (.cells (arC a) 26)) := (Below.refl _ _).alloc (Nat.le_refl _) _
  have HR := Lib.hid hR
  clear hR
  go_enter Tryd.func4, Tryd.ntmps4
  go_upto_region 1 with (fail)
  generalize w.alloc (.cells (arC a) 26) = w1 at *
  go_wp2_with fail
  refine (asked_any _).mono ?_
  rintro e w2 ⟨rfl, b2⟩
  have HA2 := HA.kept b2
  have B2 := hb0.trans (b2.mono hb0.size)
  clear HA hb0 b2
  go_wp2_with (refine load_blk (k := 0) 26 (arC a) (by rfl) rfl rfl HA2 (by kernel_rfl) (by kernel_rfl) rfl ?_)
  refine (arRight_any a _).mono ?_
  rintro e w3 ⟨rfl, b3⟩
  have HA3 := HA2.kept b3
  have B3 := B2.trans (b3.mono B2.size)
  rw [HR.out]
  clear HA2 B2 b3
  go_wp2_with (refine load_blk (k := 0) 26 (arC a) (by rfl) rfl rfl HA3 (by kernel_rfl) (by kernel_rfl) rfl ?_)
  refine (HWa.out _).mono ?_
  rintro e w4 ⟨rfl, b4⟩
  have HA4 := HA3.kept b4
  have B4 := B3.trans (b4.mono B3.size)
  clear HA3 B3 b4 HWa
  go_wp2_with fail
  refine (HRa.out _).mono ?_
  rintro e w5 ⟨rfl, b5⟩
  have HA5 := (HA4.kept b5).alloc (.cells (arC zAr) 26)
  have B5a := B4.trans (b5.mono B4.size)
  have B5 := B5a.alloc B5a.size (.cells (arC zAr) 26)
  have HZ5 := Blk.new w5 26 (arC zAr)
  have hlt : w.heap.size < w5.heap.size := (HA4.kept b5).lt
  clear HA4 B4 b5 B5a HRa
  go_upto_region 6 with (first | (refine alloc_blk 26 (arC zAr) (by rfl) rfl Tryd.arZero ?_) | (refine store_blk (k := 0) 26 (.agg (arC a)) (arC a) (by rfl) rfl rfl rfl HZ5 (by kernel_rfl) (by exact Nat.le_refl 21) rfl rfl (fun w6 HB6 b6 g6 => ?_)))
  have HA6 := HA5.grown g6 (by simp; omega)
  have B6 := B5.trans (b6.mono (Nat.le_of_lt hlt))
  clear HA5 HZ5 B5 b6 g6 hlt
  go_upto_region 8 with (first | (refine load_blk (k := 0) 26 (arC a) (by rfl) rfl rfl HB6 (by kernel_rfl) (by kernel_rfl) rfl ?_) | (refine load_blk (k := 0) 26 (arC a) (by rfl) rfl rfl HA6 (by kernel_rfl) (by kernel_rfl) rfl ?_) | (refine eq_blk .neq 26 (arC a) (arC a) true (by rfl) rfl (by first | exact Or.inl rfl | exact Or.inr rfl) rfl rfl Tryd.arGuard ((by have h := run_eql_ar a a; rw [eqAr_refl] at h; exact h _)) ?_))
  clear HA6 HB6
  go_wp2
  go_ret
  exact ⟨rfl, B6⟩

set_option maxHeartbeats 3200000 in
theorem walk_r_bad (a : Ar) (s : ByteArray) (w : World) (hR : arRight a = true) (u : ByteArray) (hu : ((u.size : Int) != 28) = false) (HWa : Hid (∀ W, Calls Tryd.prog 13 #[.agg (arC a)] W fun e w' => e = .returned (.tuple #[.string u, .nilIface]) ∧ Below W.heap.size W w')) (HRa : Hid (∀ W, Calls Tryd.prog 9 #[.string u] W fun e w' => e = .returned (.tuple #[.agg (arC a), .nilIface]) ∧ Below W.heap.size W w')) (hs : decide ((300 : Int) < (s.size : Int)) = false) (HRs : Hid (∀ W, Calls Tryd.prog 9 #[.string s] W fun e w' => ∃ q, e = .returned (.tuple #[.agg (arC zAr), .iface 102 (.pointer (some ⟨q, 0, none⟩))]) ∧ Below W.heap.size W w')) :
    Calls Tryd.prog 4 #[.agg (arC a), .string s] w fun e w' => e = .returned (.bool true) ∧ Below w.heap.size w w' := by
  have HA := Blk.new w 26 (arC a)
  have hb0 : Below w.heap.size w (w.alloc (.cells (arC a) 26)) := (Below.refl _ _).alloc (Nat.le_refl _) _
  have HR := Lib.hid hR
  clear hR
  go_enter Tryd.func4, Tryd.ntmps4
  go_upto_region 1 with (fail)
  generalize w.alloc (.cells (arC a) 26) = w1 at *
  go_wp2_with fail
  refine (asked_any _).mono ?_
  rintro e w2 ⟨rfl, b2⟩
  have HA2 := HA.kept b2
  have B2 := hb0.trans (b2.mono hb0.size)
  clear HA hb0 b2
  go_wp2_with (refine load_blk (k := 0) 26 (arC a) (by rfl) rfl rfl HA2 (by kernel_rfl) (by kernel_rfl) rfl ?_)
  refine (arRight_any a _).mono ?_
  rintro e w3 ⟨rfl, b3⟩
  have HA3 := HA2.kept b3
  have B3 := B2.trans (b3.mono B2.size)
  rw [HR.out]
  clear HA2 B2 b3
  go_wp2_with (refine load_blk (k := 0) 26 (arC a) (by rfl) rfl rfl HA3 (by kernel_rfl) (by kernel_rfl) rfl ?_)
  refine (HWa.out _).mono ?_
  rintro e w4 ⟨rfl, b4⟩
  have HA4 := HA3.kept b4
  have B4 := B3.trans (b4.mono B3.size)
  clear HA3 B3 b4 HWa
  go_wp2_with fail
  refine (HRa.out _).mono ?_
  rintro e w5 ⟨rfl, b5⟩
  have HA5 := (HA4.kept b5).alloc (.cells (arC zAr) 26)
  have B5a := B4.trans (b5.mono B4.size)
  have B5 := B5a.alloc B5a.size (.cells (arC zAr) 26)
  have HZ5 := Blk.new w5 26 (arC zAr)
  have hlt : w.heap.size < w5.heap.size := (HA4.kept b5).lt
  clear HA4 B4 b5 B5a HRa
  go_upto_region 6 with (first | (refine alloc_blk 26 (arC zAr) (by rfl) rfl Tryd.arZero ?_) | (refine store_blk (k := 0) 26 (.agg (arC a)) (arC a) (by rfl) rfl rfl rfl HZ5 (by kernel_rfl) (by exact Nat.le_refl 21) rfl rfl (fun w6 HB6 b6 g6 => ?_)))
  have HA6 := HA5.grown g6 (by simp; omega)
  have B6 := B5.trans (b6.mono (Nat.le_of_lt hlt))
  clear HA5 HZ5 B5 b6 g6 hlt
  go_upto_region 8 with (first | (refine load_blk (k := 0) 26 (arC a) (by rfl) rfl rfl HB6 (by kernel_rfl) (by kernel_rfl) rfl ?_) | (refine load_blk (k := 0) 26 (arC a) (by rfl) rfl rfl HA6 (by kernel_rfl) (by kernel_rfl) rfl ?_) | (refine eq_blk .neq 26 (arC a) (arC a) true (by rfl) rfl (by first | exact Or.inl rfl | exact Or.inr rfl) rfl rfl Tryd.arGuard ((by have h := run_eql_ar a a; rw [eqAr_refl] at h; exact h _)) ?_))
  clear HA6 HB6
  go_wp2_with fail
  refine (HRs.out _).mono ?_
  rintro e w7 ⟨q, rfl, b7⟩
  have B7a := B6.trans (b7.mono B6.size)
  have B7 := B7a.alloc B7a.size (.cells (arC zAr) 26)
  have HZ7 := Blk.new w7 26 (arC zAr)
  have hs7 := B7a.size
  clear B6 b7 B7a HRs
  go_wp2_with (first | (refine alloc_blk 26 (arC zAr) (by rfl) rfl Tryd.arZero ?_) | (refine store_blk (k := 0) 26 (.agg (arC zAr)) (arC zAr) (by rfl) rfl rfl rfl HZ7 (by kernel_rfl) (by exact Nat.le_refl 21) rfl rfl (fun w8 HZ8 b8 g8 => ?_)) | (refine load_blk (k := 0) 26 (arC zAr) (by rfl) rfl rfl HZ8 (by kernel_rfl) (by kernel_rfl) rfl ?_) | (refine build_blk (t := 26) (arC zAr) (by rfl) rfl (by kernel_rfl) ?_) | (refine eq_blk .eql 26 (arC zAr) (arC zAr) true (by rfl) rfl (by first | exact Or.inl rfl | exact Or.inr rfl) rfl rfl Tryd.arGuard ((by have h := run_eql_ar zAr zAr; rw [eqAr_refl] at h; exact h _)) ?_))
  go_ret
  exact ⟨rfl, B7.trans (b8.mono hs7)⟩

set_option maxHeartbeats 3200000 in
theorem walk_r_ok (a : Ar) (s : ByteArray) (w : World) (hR : arRight a = true) (u : ByteArray) (hu : ((u.size : Int) != 28) = false) (HWa : Hid (∀ W, Calls Tryd.prog 13 #[.agg (arC a)] W fun e w' => e = .returned (.tuple #[.string u, .nilIface]) ∧ Below W.heap.size W w')) (HRa : Hid (∀ W, Calls Tryd.prog 9 #[.string u] W fun e w' => e = .returned (.tuple #[.agg (arC a), .nilIface]) ∧ Below W.heap.size W w')) (hs : decide ((300 : Int) < (s.size : Int)) = false) (b : Ar) (t v : ByteArray) (HRs : Hid (∀ W, Calls Tryd.prog 9 #[.string s] W fun e w' => e = .returned (.tuple #[.agg (arC b), .nilIface]) ∧ Below W.heap.size W w')) (HWs : Hid (∀ W, Calls Tryd.prog 13 #[.agg (arC b)] W fun e w' => e = .returned (.tuple #[.string t, .nilIface]) ∧ Below W.heap.size W w')) (HP : Hid (∀ W, Calls Tryd.prog 14 #[.string s, .string t] W fun e w' => e = .returned (.bool true) ∧ Below W.heap.size W w')) (ht : t.size ≤ s.size) (HT : Hid (∀ W, Calls Tryd.prog 15 #[.string (s.extract t.size s.size), .string ⟨#[0]⟩] W fun e w' => e = .returned (.string ⟨#[]⟩) ∧ Below W.heap.size W w')) :
    Calls Tryd.prog 4 #[.agg (arC a), .string s] w fun e w' => e = .returned (.bool true) ∧ Below w.heap.size w w' := by
  have HA := Blk.new w 26 (arC a)
  have hb0 : Below w.heap.size w (w.alloc (.cells (arC a) 26)) := (Below.refl _ _).alloc (Nat.le_refl _) _
  have HR := Lib.hid hR
  clear hR
  go_enter Tryd.func4, Tryd.ntmps4
  go_upto_region 1 with (fail)
  generalize w.alloc (.cells (arC a) 26) = w1 at *
  go_wp2_with fail
  refine (asked_any _).mono ?_
  rintro e w2 ⟨rfl, b2⟩
  have HA2 := HA.kept b2
  have B2 := hb0.trans (b2.mono hb0.size)
  clear HA hb0 b2
  go_wp2_with (refine load_blk (k := 0) 26 (arC a) (by rfl) rfl rfl HA2 (by kernel_rfl) (by kernel_rfl) rfl ?_)
  refine (arRight_any a _).mono ?_
  rintro e w3 ⟨rfl, b3⟩
  have HA3 := HA2.kept b3
  have B3 := B2.trans (b3.mono B2.size)
  rw [HR.out]
  clear HA2 B2 b3
  go_wp2_with (refine load_blk (k := 0) 26 (arC a) (by rfl) rfl rfl HA3 (by kernel_rfl) (by kernel_rfl) rfl ?_)
  refine (HWa.out _).mono ?_
  rintro e w4 ⟨rfl, b4⟩
  have HA4 := HA3.kept b4
  have B4 := B3.trans (b4.mono B3.size)
  clear HA3 B3 b4 HWa
  go_wp2_with fail
  refine (HRa.out _).mono ?_
  rintro e w5 ⟨rfl, b5⟩
  have HA5 := (HA4.kept b5).alloc (.cells (arC zAr) 26)
  have B5a := B4.trans (b5.mono B4.size)
  have B5 := B5a.alloc B5a.size (.cells (arC zAr) 26)
  have HZ5 := Blk.new w5 26 (arC zAr)
  have hlt : w.heap.size < w5.heap.size := (HA4.kept b5).lt
  clear HA4 B4 b5 B5a HRa
  go_upto_region 6 with (first | (refine alloc_blk 26 (arC zAr) (by rfl) rfl Tryd.arZero ?_) | (refine store_blk (k := 0) 26 (.agg (arC a)) (arC a) (by rfl) rfl rfl rfl HZ5 (by kernel_rfl) (by exact Nat.le_refl 21) rfl rfl (fun w6 HB6 b6 g6 => ?_)))
  have HA6 := HA5.grown g6 (by simp; omega)
  have B6 := B5.trans (b6.mono (Nat.le_of_lt hlt))
  clear HA5 HZ5 B5 b6 g6 hlt
  go_upto_region 8 with (first | (refine load_blk (k := 0) 26 (arC a) (by rfl) rfl rfl HB6 (by kernel_rfl) (by kernel_rfl) rfl ?_) | (refine load_blk (k := 0) 26 (arC a) (by rfl) rfl rfl HA6 (by kernel_rfl) (by kernel_rfl) rfl ?_) | (refine eq_blk .neq 26 (arC a) (arC a) true (by rfl) rfl (by first | exact Or.inl rfl | exact Or.inr rfl) rfl rfl Tryd.arGuard ((by have h := run_eql_ar a a; rw [eqAr_refl] at h; exact h _)) ?_))
  clear HA6 HB6
  go_wp2_with fail
  refine (HRs.out _).mono ?_
  rintro e w7 ⟨rfl, b7⟩
  have B7a := B6.trans (b7.mono B6.size)
  have B7 := B7a.alloc B7a.size (.cells (arC zAr) 26)
  have HZ7 := Blk.new w7 26 (arC zAr)
  have hs7 := B7a.size
  clear B6 b7 B7a HRs
  go_wp2_with (first | (refine alloc_blk 26 (arC zAr) (by rfl) rfl Tryd.arZero ?_) | (refine store_blk (k := 0) 26 (.agg (arC b)) (arC b) (by rfl) rfl rfl rfl HZ7 (by kernel_rfl) (by exact Nat.le_refl 21) rfl rfl (fun w8 HZ8 b8 g8 => ?_)) | (refine load_blk (k := 0) 26 (arC b) (by rfl) rfl rfl HZ8 (by kernel_rfl) (by kernel_rfl) rfl ?_))
  refine (HWs.out _).mono ?_
  rintro e w9 ⟨rfl, b9⟩
  have B8 := B7.trans (b8.mono hs7)
  have B9 := B8.trans (b9.mono B8.size)
  clear HZ7 HZ8 B7 b8 g8 B8 b9 HWs hs7
  go_wp2_with fail
  refine (HP.out _).mono ?_
  rintro e w10 ⟨rfl, b10⟩
  have B10 := B9.trans (b10.mono B9.size)
  clear B9 b10 HP
  go_wp2_with fail
  refine (HT.out _).mono ?_
  rintro e w11 ⟨rfl, b11⟩
  have B11 := B10.trans (b11.mono B10.size)
  go_wp2
  go_ret
  exact ⟨rfl, B11⟩

set_option maxHeartbeats 3200000 in
theorem walk_n_long (a : Ar) (s : ByteArray) (w : World) (hR : arRight a = false) (hs : decide ((300 : Int) < (s.size : Int)) = true) :
    Calls Tryd.prog 4 #[.agg (arC a), .string s] w fun e w' => e = .returned (.bool true) ∧ Below w.heap.size w w' := by
  have HA := Blk.new w 26 (arC a)
  have hb0 : Below w.heap.size w (w.alloc (.cells (arC a) 26)) := (Below.refl _ _).alloc (Nat.le_refl _) _
  have HR := Lib.hid hR
  clear hR
  go_enter Tryd.func4, Tryd.ntmps4
  go_upto_region 1 with (fail)
  generalize w.alloc (.cells (arC a) 26) = w1 at *
  go_wp2_with fail
  refine (asked_any _).mono ?_
  rintro e w2 ⟨rfl, b2⟩
  have HA2 := HA.kept b2
  have B2 := hb0.trans (b2.mono hb0.size)
  clear HA hb0 b2
  go_wp2_with (refine load_blk (k := 0) 26 (arC a) (by rfl) rfl rfl HA2 (by kernel_rfl) (by kernel_rfl) rfl ?_)
  refine (arRight_any a _).mono ?_
  rintro e w3 ⟨rfl, b3⟩
  have HA3 := HA2.kept b3
  have B3 := B2.trans (b3.mono B2.size)
  rw [HR.out]
  clear HA2 B2 b3
  go_upto_region 8 with (fail)
  have B6 := B3
  generalize w3 = w6 at *
  clear HA3 B3
  go_wp2
  go_ret
  exact ⟨rfl, B6⟩

set_option maxHeartbeats 3200000 in
theorem walk_n_bad (a : Ar) (s : ByteArray) (w : World) (hR : arRight a = false) (hs : decide ((300 : Int) < (s.size : Int)) = false) (HRs : Hid (∀ W, Calls Tryd.prog 9 #[.string s] W fun e w' => ∃ q, e = .returned (.tuple #[.agg (arC zAr), .iface 102 (.pointer (some ⟨q, 0, none⟩))]) ∧ Below W.heap.size W w')) :
    Calls Tryd.prog 4 #[.agg (arC a), .string s] w fun e w' => e = .returned (.bool true) ∧ Below w.heap.size w w' := by
  have HA := Blk.new w 26 (arC a)
  have hb0 : Below w.heap.size w (w.alloc (.cells (arC a) 26)) := (Below.refl _ _).alloc (Nat.le_refl _) _
  have HR := Lib.hid hR
  clear hR
  go_enter Tryd.func4, Tryd.ntmps4
  go_upto_region 1 with (fail)
  generalize w.alloc (.cells (arC a) 26) = w1 at *
  go_wp2_with fail
  refine (asked_any _).mono ?_
  rintro e w2 ⟨rfl, b2⟩
  have HA2 := HA.kept b2
  have B2 := hb0.trans (b2.mono hb0.size)
  clear HA hb0 b2
  go_wp2_with (refine load_blk (k := 0) 26 (arC a) (by rfl) rfl rfl HA2 (by kernel_rfl) (by kernel_rfl) rfl ?_)
  refine (arRight_any a _).mono ?_
  rintro e w3 ⟨rfl, b3⟩
  have HA3 := HA2.kept b3
  have B3 := B2.trans (b3.mono B2.size)
  rw [HR.out]
  clear HA2 B2 b3
  go_upto_region 8 with (fail)
  have B6 := B3
  generalize w3 = w6 at *
  clear HA3 B3
  go_wp2_with fail
  refine (HRs.out _).mono ?_
  rintro e w7 ⟨q, rfl, b7⟩
  have B7a := B6.trans (b7.mono B6.size)
  have B7 := B7a.alloc B7a.size (.cells (arC zAr) 26)
  have HZ7 := Blk.new w7 26 (arC zAr)
  have hs7 := B7a.size
  clear B6 b7 B7a HRs
  go_wp2_with (first | (refine alloc_blk 26 (arC zAr) (by rfl) rfl Tryd.arZero ?_) | (refine store_blk (k := 0) 26 (.agg (arC zAr)) (arC zAr) (by rfl) rfl rfl rfl HZ7 (by kernel_rfl) (by exact Nat.le_refl 21) rfl rfl (fun w8 HZ8 b8 g8 => ?_)) | (refine load_blk (k := 0) 26 (arC zAr) (by rfl) rfl rfl HZ8 (by kernel_rfl) (by kernel_rfl) rfl ?_) | (refine build_blk (t := 26) (arC zAr) (by rfl) rfl (by kernel_rfl) ?_) | (refine eq_blk .eql 26 (arC zAr) (arC zAr) true (by rfl) rfl (by first | exact Or.inl rfl | exact Or.inr rfl) rfl rfl Tryd.arGuard ((by have h := run_eql_ar zAr zAr; rw [eqAr_refl] at h; exact h _)) ?_))
  go_ret
  exact ⟨rfl, B7.trans (b8.mono hs7)⟩

set_option maxHeartbeats 3200000 in
theorem walk_n_ok (a : Ar) (s : ByteArray) (w : World) (hR : arRight a = false) (hs : decide ((300 : Int) < (s.size : Int)) = false) (b : Ar) (t v : ByteArray) (HRs : Hid (∀ W, Calls Tryd.prog 9 #[.string s] W fun e w' => e = .returned (.tuple #[.agg (arC b), .nilIface]) ∧ Below W.heap.size W w')) (HWs : Hid (∀ W, Calls Tryd.prog 13 #[.agg (arC b)] W fun e w' => e = .returned (.tuple #[.string t, .nilIface]) ∧ Below W.heap.size W w')) (HP : Hid (∀ W, Calls Tryd.prog 14 #[.string s, .string t] W fun e w' => e = .returned (.bool true) ∧ Below W.heap.size W w')) (ht : t.size ≤ s.size) (HT : Hid (∀ W, Calls Tryd.prog 15 #[.string (s.extract t.size s.size), .string ⟨#[0]⟩] W fun e w' => e = .returned (.string ⟨#[]⟩) ∧ Below W.heap.size W w')) :
    Calls Tryd.prog 4 #[.agg (arC a), .string s] w fun e w' => e = .returned (.bool true) ∧ Below w.heap.size w w' := by
  have HA := Blk.new w 26 (arC a)
  have hb0 : Below w.heap.size w (w.alloc (.cells (arC a) 26)) := (Below.refl _ _).alloc (Nat.le_refl _) _
  have HR := Lib.hid hR
  clear hR
  go_enter Tryd.func4, Tryd.ntmps4
  go_upto_region 1 with (fail)
  generalize w.alloc (.cells (arC a) 26) = w1 at *
  go_wp2_with fail
  refine (asked_any _).mono ?_
  rintro e w2 ⟨rfl, b2⟩
  have HA2 := HA.kept b2
  have B2 := hb0.trans (b2.mono hb0.size)
  clear HA hb0 b2
  go_wp2_with (refine load_blk (k := 0) 26 (arC a) (by rfl) rfl rfl HA2 (by kernel_rfl) (by kernel_rfl) rfl ?_)
  refine (arRight_any a _).mono ?_
  rintro e w3 ⟨rfl, b3⟩
  have HA3 := HA2.kept b3
  have B3 := B2.trans (b3.mono B2.size)
  rw [HR.out]
  clear HA2 B2 b3
  go_upto_region 8 with (fail)
  have B6 := B3
  generalize w3 = w6 at *
  clear HA3 B3
  go_wp2_with fail
  refine (HRs.out _).mono ?_
  rintro e w7 ⟨rfl, b7⟩
  have B7a := B6.trans (b7.mono B6.size)
  have B7 := B7a.alloc B7a.size (.cells (arC zAr) 26)
  have HZ7 := Blk.new w7 26 (arC zAr)
  have hs7 := B7a.size
  clear B6 b7 B7a HRs
  go_wp2_with (first | (refine alloc_blk 26 (arC zAr) (by rfl) rfl Tryd.arZero ?_) | (refine store_blk (k := 0) 26 (.agg (arC b)) (arC b) (by rfl) rfl rfl rfl HZ7 (by kernel_rfl) (by exact Nat.le_refl 21) rfl rfl (fun w8 HZ8 b8 g8 => ?_)) | (refine load_blk (k := 0) 26 (arC b) (by rfl) rfl rfl HZ8 (by kernel_rfl) (by kernel_rfl) rfl ?_))
  refine (HWs.out _).mono ?_
  rintro e w9 ⟨rfl, b9⟩
  have B8 := B7.trans (b8.mono hs7)
  have B9 := B8.trans (b9.mono B8.size)
  clear HZ7 HZ8 B7 b8 g8 B8 b9 HWs hs7
  go_wp2_with fail
  refine (HP.out _).mono ?_
  rintro e w10 ⟨rfl, b10⟩
  have B10 := B9.trans (b10.mono B9.size)
  clear B9 b10 HP
  go_wp2_with fail
  refine (HT.out _).mono ?_
  rintro e w11 ⟨rfl, b11⟩
  have B11 := B10.trans (b11.mono B10.size)
  go_wp2
  go_ret
  exact ⟨rfl, B11⟩

theorem prefix_take (l : List UInt8) (n : Nat) : Lib.hasPrefix l (l.take n) = true := by
  simp [Lib.hasPrefix, List.take_prefix]

theorem walk (a : Ar) (hA : ArB a) (s : ByteArray) (w : World) :
    Calls Tryd.prog 4 #[.agg (arC a), .string s] w fun e w' => e = .returned (.bool true) ∧ Below w.heap.size w w' := by
  have HL : s.data.toList.length = s.size := by simp
  -- what is written of a Right message is read
  have first : arRight a = true → ∃ u : ByteArray, ((u.size : Int) != 28) = false ∧ (∀ W, Calls Tryd.prog 13 #[.agg (arC a)] W fun e w' => e = .returned (.tuple #[.string u, .nilIface]) ∧ Below W.heap.size W w') ∧ (∀ W, Calls Tryd.prog 9 #[.string u] W fun e w' => e = .returned (.tuple #[.agg (arC a), .nilIface]) ∧ Below W.heap.size W w') := fun hR => by
    obtain ⟨n, hn, ho⟩ : ∃ n : Nat, (n = 1 ∨ n = 2) ∧ a.op = n := by
      unfold arRight at hR
      simp at hR
      rcases hR with h | h
      · exact ⟨1, Or.inl rfl, h⟩
      · exact ⟨2, Or.inr rfl, h⟩
    have hsz : (⟨(arL n a).toArray⟩ : ByteArray).size = 28 := by show (arL n a).toArray.size = 28; simp [arL_len]
    refine ⟨⟨(arL n a).toArray⟩, by rw [hsz]; rfl, fun W => arWrite_yes n a W hn ho hA, fun W => ?_⟩
    obtain ⟨e1, e2, e3⟩ := ar_back n a hn ho hA
    refine (arRead_any ⟨(arL n a).toArray⟩ W (by rw [hsz]; omega)).mono fun e w' h => ?_
    rw [show (⟨(arL n a).toArray⟩ : ByteArray).data.toList = arL n a from rfl, e1, e2] at h
    exact reads_ok h
  by_cases hs : s.size ≤ 300
  · have h3 : decide ((300 : Int) < (s.size : Int)) = false := decide_eq_false (by omega)
    cases hz : (ar9 s.data.toList).1 with
    | false =>
      have HRs : ∀ W, Calls Tryd.prog 9 #[.string s] W fun e w' => ∃ q, e = .returned (.tuple #[.agg (arC zAr), .iface 102 (.pointer (some ⟨q, 0, none⟩))]) ∧ Below W.heap.size W w' := fun W => by
        refine (arRead_any s W hs).mono fun e w' h => ?_
        have e3 : arRes s.data.toList = zAr := by unfold arRes; rw [hz]; rfl
        rw [e3] at h
        obtain ⟨q, h1, _, h2⟩ := reads_bad (arE_ne _ hz) h
        exact ⟨q, h1, h2⟩
      cases hR : arRight a with
      | true =>
        obtain ⟨u, hu, h1, h2⟩ := first hR
        exact walk_r_bad a s w hR u hu (Lib.hid h1) (Lib.hid h2) h3 (Lib.hid HRs)
      | false => exact walk_n_bad a s w hR h3 (Lib.hid HRs)
    | true =>
      obtain ⟨hop, hL, h28, hzz⟩ := ar_fore s hz
      have hB : ArB (arOf s.data.toList) := ⟨byX_lt _, byX_lt _, byX_lt _, byX_lt _⟩
      have hsz : (⟨(s.data.toList.take 28).toArray⟩ : ByteArray).size = 28 := by show (s.data.toList.take 28).toArray.size = 28; rw [List.size_toArray, List.length_take, HL]; omega
      have HRs : ∀ W, Calls Tryd.prog 9 #[.string s] W fun e w' => e = .returned (.tuple #[.agg (arC (arOf s.data.toList)), .nilIface]) ∧ Below W.heap.size W w' := fun W => by
        refine (arRead_any s W hs).mono fun e w' h => ?_
        have e3 : arRes s.data.toList = arOf s.data.toList := by unfold arRes; rw [hz]; rfl
        rw [e3, (ar_good _ hz).1] at h
        exact reads_ok h
      have HWs : ∀ W, Calls Tryd.prog 13 #[.agg (arC (arOf s.data.toList))] W fun e w' => e = .returned (.tuple #[.string ⟨(s.data.toList.take 28).toArray⟩, .nilIface]) ∧ Below W.heap.size W w' := fun W => by
        have h := arWrite_yes (arOp s.data.toList) (arOf s.data.toList) W hop rfl hB
        rw [hL] at h
        exact h
      have HP : ∀ W, Calls Tryd.prog 14 #[.string s, .string ⟨(s.data.toList.take 28).toArray⟩] W fun e w' => e = .returned (.bool true) ∧ Below W.heap.size W w' := fun W => by
        refine (Tryd.strings_HasPrefix s ⟨(s.data.toList.take 28).toArray⟩ W).mono ?_
        rintro e w' ⟨rfl, rfl⟩
        exact ⟨by rw [show (⟨(s.data.toList.take 28).toArray⟩ : ByteArray).data.toList = s.data.toList.take 28 from rfl, prefix_take], Below.refl _ _⟩
      have htr : Lib.trimB (s.extract (⟨(s.data.toList.take 28).toArray⟩ : ByteArray).size s.size).data.toList 0 = [] := by
        rw [hsz, Lib.extract_to_end, trim_nil_iff]
        intro b hb
        obtain ⟨j, hj, hjb⟩ := List.getElem_of_mem hb
        rw [List.getElem_drop] at hjb
        have hj2 : 28 + j < s.data.toList.length := by rw [List.length_drop] at hj; omega
        exact hzz (28 + j) b (by omega) (by rw [List.getElem?_eq_getElem hj2, hjb])
      have HT : ∀ W, Calls Tryd.prog 15 #[.string (s.extract (⟨(s.data.toList.take 28).toArray⟩ : ByteArray).size s.size), .string ⟨#[0]⟩] W fun e w' => e = .returned (.string ⟨#[]⟩) ∧ Below W.heap.size W w' := fun W => by
        refine (Tryd.strings_Trim_one _ 0 (by decide) W (by rw [ByteArray.size_extract]; omega)).mono ?_
        rintro e w' ⟨rfl, hw⟩
        rw [htr]
        refine ⟨rfl, ?_⟩
        rcases hw with rfl | rfl
        · exact Below.refl _ _
        · exact (Below.refl _ _).drew
      cases hR : arRight a with
      | true =>
        obtain ⟨u, hu, h1, h2⟩ := first hR
        exact walk_r_ok a s w hR u hu (Lib.hid h1) (Lib.hid h2) h3 _ _ ⟨#[]⟩ (Lib.hid HRs) (Lib.hid HWs) (Lib.hid HP) (by rw [hsz]; exact h28) (Lib.hid HT)
      | false => exact walk_n_ok a s w hR h3 _ _ ⟨#[]⟩ (Lib.hid HRs) (Lib.hid HWs) (Lib.hid HP) (by rw [hsz]; exact h28) (Lib.hid HT)
  · have h3 : decide ((300 : Int) < (s.size : Int)) = true := decide_eq_true (by omega)
    cases hR : arRight a with
    | true =>
      obtain ⟨u, hu, h1, h2⟩ := first hR
      exact walk_r_long a s w hR u hu (Lib.hid h1) (Lib.hid h2) h3
    | false => exact walk_n_long a s w hR h3

end Go.Proofs.YtjoepmfineinfaaDoor.arpBack
