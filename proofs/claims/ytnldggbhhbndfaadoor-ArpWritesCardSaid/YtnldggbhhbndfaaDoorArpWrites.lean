/- switchyardlaw.ArpWrites: every message as bytes, and its answer: true, and what was there is as it was. -/
import Derived.Test.YtnldggbhhbndfaaDoorRefArWrite
import Derived.Test.YtnldggbhhbndfaaDoorArReply
import Derived.Test.YtnldggbhhbndfaaDoorBare
namespace Go.Proofs.YtnldggbhhbndfaaDoor.arpWrites
open Go.RowKit
attribute [local go_sem ↓] Go.wp_at_zero Go.wp_at_succ
set_option linter.unusedSimpArgs false
set_option linter.unusedVariables false
set_option maxRecDepth 100000

theorem boxed (w : World) (a : Ar) (m : Nat → Nat) : Blk ((w.alloc (.cells (arC a) 26)).alloc (.cells (c6 m) 23)) w.heap.size 26 (arC a) ∧ Blk ((w.alloc (.cells (arC a) 26)).alloc (.cells (c6 m) 23)) (w.heap.size + 1) 23 (c6 m) ∧ Below w.heap.size w ((w.alloc (.cells (arC a) 26)).alloc (.cells (c6 m) 23)) := by
  refine ⟨(Blk.new w _ (arC a)).alloc _, ?_, ((Below.refl _ _).alloc (Nat.le_refl _) _).alloc (by simp) _⟩
  have h := Blk.new (w.alloc (.cells (arC a) 26)) 23 (c6 m)
  simpa using h

set_option maxHeartbeats 3200000 in
theorem walk_other (a : Ar) (m : Nat → Nat) (w : World) (L : List UInt8) (e1 : Int) (er bad : Value) (f : Int) (hE : HasErr w) (h1 : (a.op == 1) = false) (hrb : Hid (arRight a = (e1 == 0)))
    (HV : Hid (∀ W, Calls Tryd.prog 11 #[.agg (arC a)] W fun e w' => e = .returned (.tuple #[.string ⟨L.toArray⟩, .int .i64 e1]) ∧ Below W.heap.size W w'))
    (HW : Hid (∀ W, Calls Tryd.prog 12 #[.agg (arC a)] W fun e w' => e = .returned (.tuple #[.string ⟨L.toArray⟩, er]) ∧ Below W.heap.size W w'))
    (HR : Hid (∀ W, Calls Tryd.prog 13 #[.agg (arC a), .agg (c6 m)] W fun e w' => e = .returned (.tuple #[.agg (arC zAr), bad]) ∧ Below W.heap.size W w'))
    (hb1 : Bare er e1) (hb2 : Bare bad 6) :
    Calls Tryd.prog 3 #[.agg (arC a), .agg (c6 m)] w fun e w' => e = .returned (.bool true) ∧ Below w.heap.size w w' := by
  obtain ⟨HA, HM, hb0⟩ := boxed w a m
  go_enter Tryd.func3, Tryd.ntmps3
  go_upto_region 1 with (fail)
  generalize (w.alloc (.cells (arC a) 26)).alloc (.cells (c6 m) 23) = w1 at *
  go_wp2_with (refine load_blk (k := 0) 26 (arC a) (by rfl) rfl rfl HA (by kernel_rfl) (by kernel_rfl) rfl ?_)
  refine (HV.out _).mono ?_
  rintro e w2 ⟨rfl, b2⟩
  have HA2 := HA.kept b2
  have HM2 := HM.kept b2
  have B2 := hb0.trans (b2.mono hb0.size)
  clear HA HM hb0 b2 HV
  go_wp2_with (refine load_blk (k := 0) 26 (arC a) (by rfl) rfl rfl HA2 (by kernel_rfl) (by kernel_rfl) rfl ?_)
  refine (HW.out _).mono ?_
  rintro e w3 ⟨rfl, b3⟩
  have HA3 := HA2.kept b3
  have HM3 := HM2.kept b3
  have B3 := B2.trans (b3.mono B2.size)
  clear HA2 HM2 B2 b3 HW
  go_wp2_with (first | (refine load_blk (k := 0) 26 (arC a) (by rfl) rfl rfl HA3 (by kernel_rfl) (by kernel_rfl) rfl ?_) | (refine load_blk (k := 0) 23 (c6 m) (by rfl) rfl rfl HM3 (by kernel_rfl) (by kernel_rfl) rfl ?_))
  refine (HR.out _).mono ?_
  rintro e w4 ⟨rfl, b4⟩
  have HA4 := (HA3.kept b4).alloc (.cells (arC zAr) 26)
  have HM4 := (HM3.kept b4).alloc (.cells (arC zAr) 26)
  have B4 : Below w.heap.size w (w4.alloc (.cells (arC zAr) 26)) := (B3.trans (b4.mono B3.size)).alloc (B3.trans (b4.mono B3.size)).size _
  have HZ4 := Blk.new w4 26 (arC zAr)
  have hs4 : w.heap.size ≤ w4.heap.size := (B3.trans (b4.mono B3.size)).size
  have ho4 : w.heap.size + 1 < w4.heap.size := (HM3.kept b4).lt
  clear HA3 HM3 B3 b4 HR
  go_upto_region 4 with (first | (refine alloc_blk 26 (arC zAr) (by rfl) rfl Tryd.arZero ?_) | (refine store_blk (k := 0) 26 (.agg (arC zAr)) (arC zAr) (by rfl) rfl rfl rfl HZ4 (by kernel_rfl) (by exact Nat.le_refl 21) rfl rfl (fun w5 HR5 b5 G5 => ?_)))
  have HA5 := HA4.grown G5 (by simp; omega)
  have HM5 := HM4.grown G5 (by simp; omega)
  have B5 : Below w.heap.size w w5 := B4.trans (b5.mono hs4)
  clear HA4 HM4 HZ4 B4 b5 G5
  have hs5 : w.heap.size ≤ w5.heap.size := B5.size
  have ho5 : w4.heap.size < w5.heap.size := HR5.lt
  have HA6 := HA5.alloc (.cells (arC zAr) 26)
  have HM6 := HM5.alloc (.cells (arC zAr) 26)
  have HR6 := HR5.alloc (.cells (arC zAr) 26)
  have B6 := B5.alloc hs5 (.cells (arC zAr) 26)
  have HW6 := Blk.new w5 26 (arC zAr)
  clear HA5 HM5 HR5 B5
  go_upto_region 5 with (first | (refine build_blk (t := 26) (arC zAr) (by rfl) rfl (by kernel_rfl) ?_) | (refine alloc_blk 26 (arC zAr) (by rfl) rfl Tryd.arZero ?_) | (refine store_blk (k := 0) 26 (.agg (arC zAr)) (arC zAr) (by rfl) rfl rfl rfl HW6 (by kernel_rfl) (by exact Nat.le_refl 21) rfl rfl (fun w7 HW7 b7 G7 => ?_)))
  have HA7 := HA6.grown G7 (by simp; omega)
  have HM7 := HM6.grown G7 (by simp; omega)
  have HR7 := HR6.grown G7 (by simp; omega)
  have B7 : Below w.heap.size w w7 := B6.trans (b7.mono hs5)
  have c0 := HA7.cv 0 (.int .i64 a.op) rfl
  clear HA6 HM6 HR6 HW6 B6 b7 G7
  go_upto_region 7 with (fail)
  have HA8 := HA7
  have HR8 := HR7
  have HW8 := HW7
  have B8 := B7
  generalize w7 = w8 at *
  clear HM7 HA7 HR7 HW7 B7
  have hE8 : HasErr w8 := hE.below B8
  go_wp2_with fail
  refine (hb1 _ hE8).mono ?_
  rintro e w9 ⟨rfl, b9⟩
  have HA9 := HA8.kept b9
  have HR9 := HR8.kept b9
  have HW9 := HW8.kept b9
  have B9 := B8.trans (b9.mono B8.size)
  have hE9 : HasErr w9 := hE.below B9
  have hL : (L == L) = true := by simp
  clear HA8 HR8 HW8 B8 b9 hE8
  go_wp2_with (refine load_blk (k := 0) 26 (arC a) (by rfl) rfl rfl HA9 (by kernel_rfl) (by kernel_rfl) rfl ?_)
  refine (arRight_any a _).mono ?_
  rintro e w10 ⟨rfl, b10⟩
  have HR10 := HR9.kept b10
  have HW10 := HW9.kept b10
  have B10 := B9.trans (b10.mono B9.size)
  have hE10 : HasErr w10 := hE.below B10
  rw [hrb.out]
  have hee : ((e1 == 0) == (e1 == 0)) = true := by simp
  clear HA9 HR9 HW9 B9 b10 hE9
  go_wp2_with fail
  refine (hb2 _ hE10).mono ?_
  rintro e w11 ⟨rfl, b11⟩
  have HR11 := HR10.kept b11
  have HW11 := HW10.kept b11
  have B11 := B10.trans (b11.mono B10.size)
  have q : ∀ W, (Op.equalIn 10000 26 (.agg (arC zAr)) (.agg (arC zAr))).run Tryd.prog W = .ok true W := fun W => by have h := run_eql_ar zAr zAr W; rw [eqAr_refl] at h; exact h
  clear HR10 HW10 B10 b11 hE10
  go_wp2_with (first | (refine load_blk (k := 0) 26 (arC zAr) (by rfl) rfl rfl HR11 (by kernel_rfl) (by kernel_rfl) rfl ?_) | (refine load_blk (k := 0) 26 (arC zAr) (by rfl) rfl rfl HW11 (by kernel_rfl) (by kernel_rfl) rfl ?_) | (refine eq_blk .eql 26 (arC zAr) (arC zAr) true (by rfl) rfl (by first | exact Or.inl rfl | exact Or.inr rfl) rfl rfl Tryd.arGuard (q _) ?_))
  go_ret
  exact ⟨rfl, B11⟩

set_option maxHeartbeats 3200000 in
theorem walk_one (a : Ar) (m : Nat → Nat) (w : World) (L : List UInt8) (e1 : Int) (er bad : Value) (f : Int) (hE : HasErr w) (h1 : (a.op == 1) = true) (hrb : Hid (arRight a = (e1 == 0)))
    (HV : Hid (∀ W, Calls Tryd.prog 11 #[.agg (arC a)] W fun e w' => e = .returned (.tuple #[.string ⟨L.toArray⟩, .int .i64 e1]) ∧ Below W.heap.size W w'))
    (HW : Hid (∀ W, Calls Tryd.prog 12 #[.agg (arC a)] W fun e w' => e = .returned (.tuple #[.string ⟨L.toArray⟩, er]) ∧ Below W.heap.size W w'))
    (HR : Hid (∀ W, Calls Tryd.prog 13 #[.agg (arC a), .agg (c6 m)] W fun e w' => e = .returned (.tuple #[.agg (arC (arReply a m)), bad]) ∧ Below W.heap.size W w'))
    (hb1 : Bare er e1) (hb2 : Bare bad 0) :
    Calls Tryd.prog 3 #[.agg (arC a), .agg (c6 m)] w fun e w' => e = .returned (.bool true) ∧ Below w.heap.size w w' := by
  obtain ⟨HA, HM, hb0⟩ := boxed w a m
  go_enter Tryd.func3, Tryd.ntmps3
  go_upto_region 1 with (fail)
  generalize (w.alloc (.cells (arC a) 26)).alloc (.cells (c6 m) 23) = w1 at *
  go_wp2_with (refine load_blk (k := 0) 26 (arC a) (by rfl) rfl rfl HA (by kernel_rfl) (by kernel_rfl) rfl ?_)
  refine (HV.out _).mono ?_
  rintro e w2 ⟨rfl, b2⟩
  have HA2 := HA.kept b2
  have HM2 := HM.kept b2
  have B2 := hb0.trans (b2.mono hb0.size)
  clear HA HM hb0 b2 HV
  go_wp2_with (refine load_blk (k := 0) 26 (arC a) (by rfl) rfl rfl HA2 (by kernel_rfl) (by kernel_rfl) rfl ?_)
  refine (HW.out _).mono ?_
  rintro e w3 ⟨rfl, b3⟩
  have HA3 := HA2.kept b3
  have HM3 := HM2.kept b3
  have B3 := B2.trans (b3.mono B2.size)
  clear HA2 HM2 B2 b3 HW
  go_wp2_with (first | (refine load_blk (k := 0) 26 (arC a) (by rfl) rfl rfl HA3 (by kernel_rfl) (by kernel_rfl) rfl ?_) | (refine load_blk (k := 0) 23 (c6 m) (by rfl) rfl rfl HM3 (by kernel_rfl) (by kernel_rfl) rfl ?_))
  refine (HR.out _).mono ?_
  rintro e w4 ⟨rfl, b4⟩
  have HA4 := (HA3.kept b4).alloc (.cells (arC zAr) 26)
  have HM4 := (HM3.kept b4).alloc (.cells (arC zAr) 26)
  have B4 : Below w.heap.size w (w4.alloc (.cells (arC zAr) 26)) := (B3.trans (b4.mono B3.size)).alloc (B3.trans (b4.mono B3.size)).size _
  have HZ4 := Blk.new w4 26 (arC zAr)
  have hs4 : w.heap.size ≤ w4.heap.size := (B3.trans (b4.mono B3.size)).size
  have ho4 : w.heap.size + 1 < w4.heap.size := (HM3.kept b4).lt
  clear HA3 HM3 B3 b4 HR
  go_upto_region 4 with (first | (refine alloc_blk 26 (arC zAr) (by rfl) rfl Tryd.arZero ?_) | (refine store_blk (k := 0) 26 (.agg (arC (arReply a m))) (arC (arReply a m)) (by rfl) rfl rfl rfl HZ4 (by kernel_rfl) (by exact Nat.le_refl 21) rfl rfl (fun w5 HR5 b5 G5 => ?_)))
  have HA5 := HA4.grown G5 (by simp; omega)
  have HM5 := HM4.grown G5 (by simp; omega)
  have B5 : Below w.heap.size w w5 := B4.trans (b5.mono hs4)
  clear HA4 HM4 HZ4 B4 b5 G5
  have hs5 : w.heap.size ≤ w5.heap.size := B5.size
  have ho5 : w4.heap.size < w5.heap.size := HR5.lt
  have HA6 := HA5.alloc (.cells (arC zAr) 26)
  have HM6 := HM5.alloc (.cells (arC zAr) 26)
  have HR6 := HR5.alloc (.cells (arC zAr) 26)
  have B6 := B5.alloc hs5 (.cells (arC zAr) 26)
  have HW6 := Blk.new w5 26 (arC zAr)
  clear HA5 HM5 HR5 B5
  go_upto_region 5 with (first | (refine build_blk (t := 26) (arC zAr) (by rfl) rfl (by kernel_rfl) ?_) | (refine alloc_blk 26 (arC zAr) (by rfl) rfl Tryd.arZero ?_) | (refine store_blk (k := 0) 26 (.agg (arC zAr)) (arC zAr) (by rfl) rfl rfl rfl HW6 (by kernel_rfl) (by exact Nat.le_refl 21) rfl rfl (fun w7 HW7 b7 G7 => ?_)))
  have HA7 := HA6.grown G7 (by simp; omega)
  have HM7 := HM6.grown G7 (by simp; omega)
  have HR7 := HR6.grown G7 (by simp; omega)
  have B7 : Below w.heap.size w w7 := B6.trans (b7.mono hs5)
  have c0 := HA7.cv 0 (.int .i64 a.op) rfl
  clear HA6 HM6 HR6 HW6 B6 b7 G7
  go_upto_region 7 with (first | (refine load_blk (k := 0) 23 (c6 m) (by rfl) rfl rfl HM7 (by kernel_rfl) (by kernel_rfl) rfl ?_) | (refine load_blk (k := 1) 23 (c6 a.sha) (by rfl) rfl rfl HA7 (by kernel_rfl) (by kernel_rfl) rfl ?_) | (refine load_blk (k := 13) 24 (c4 a.spa) (by rfl) rfl rfl HA7 (by kernel_rfl) (by kernel_rfl) rfl ?_) | (refine load_blk (k := 17) 24 (c4 a.tpa) (by rfl) rfl rfl HA7 (by kernel_rfl) (by kernel_rfl) rfl ?_) | (refine build_blk (t := 26) (arC (arReply a m)) (by rfl) rfl (by kernel_rfl) ?_) | (refine store_blk (k := 0) 26 (.agg (arC (arReply a m))) (arC (arReply a m)) (by rfl) rfl rfl rfl HW7 (by kernel_rfl) (by exact Nat.le_refl 21) rfl rfl (fun w8 HW8 b8 G8 => ?_)))
  have HA8 := HA7.grown G8 (by simp; omega)
  have HR8 := HR7.grown G8 (by simp; omega)
  have hs7 : w.heap.size ≤ w5.heap.size := hs5
  have B8 : Below w.heap.size w w8 := B7.trans (b8.mono hs7)
  clear HA7 HM7 HR7 HW7 B7 b8 G8
  have hE8 : HasErr w8 := hE.below B8
  go_wp2_with fail
  refine (hb1 _ hE8).mono ?_
  rintro e w9 ⟨rfl, b9⟩
  have HA9 := HA8.kept b9
  have HR9 := HR8.kept b9
  have HW9 := HW8.kept b9
  have B9 := B8.trans (b9.mono B8.size)
  have hE9 : HasErr w9 := hE.below B9
  have hL : (L == L) = true := by simp
  clear HA8 HR8 HW8 B8 b9 hE8
  go_wp2_with (refine load_blk (k := 0) 26 (arC a) (by rfl) rfl rfl HA9 (by kernel_rfl) (by kernel_rfl) rfl ?_)
  refine (arRight_any a _).mono ?_
  rintro e w10 ⟨rfl, b10⟩
  have HR10 := HR9.kept b10
  have HW10 := HW9.kept b10
  have B10 := B9.trans (b10.mono B9.size)
  have hE10 : HasErr w10 := hE.below B10
  rw [hrb.out]
  have hee : ((e1 == 0) == (e1 == 0)) = true := by simp
  clear HA9 HR9 HW9 B9 b10 hE9
  go_wp2_with fail
  refine (hb2 _ hE10).mono ?_
  rintro e w11 ⟨rfl, b11⟩
  have HR11 := HR10.kept b11
  have HW11 := HW10.kept b11
  have B11 := B10.trans (b11.mono B10.size)
  have q : ∀ W, (Op.equalIn 10000 26 (.agg (arC (arReply a m))) (.agg (arC (arReply a m)))).run Tryd.prog W = .ok true W := fun W => by have h := run_eql_ar (arReply a m) (arReply a m) W; rw [eqAr_refl] at h; exact h
  clear HR10 HW10 B10 b11 hE10
  go_wp2_with (first | (refine load_blk (k := 0) 26 (arC (arReply a m)) (by rfl) rfl rfl HR11 (by kernel_rfl) (by kernel_rfl) rfl ?_) | (refine load_blk (k := 0) 26 (arC (arReply a m)) (by rfl) rfl rfl HW11 (by kernel_rfl) (by kernel_rfl) rfl ?_) | (refine eq_blk .eql 26 (arC (arReply a m)) (arC (arReply a m)) true (by rfl) rfl (by first | exact Or.inl rfl | exact Or.inr rfl) rfl rfl Tryd.arGuard (q _) ?_))
  go_ret
  exact ⟨rfl, B11⟩

theorem walk (a : Ar) (hA : ArB a) (m : Nat → Nat) (w : World) (hE : HasErr w) :
    Calls Tryd.prog 3 #[.agg (arC a), .agg (c6 m)] w fun e w' => e = .returned (.bool true) ∧ Below w.heap.size w w' := by
  by_cases h1 : a.op = 1
  · exact walk_one a m w (arL 1 a) 0 .nilIface .nilIface 0 hE (by simp [h1]) (show _ = _ by simp [arRight, h1]) (fun W => refArWrite_1 a W h1 hA) (fun W => arWrite_yes 1 a W (Or.inl rfl) h1 hA) (fun W => arReply_yes a m W h1) Bare.none Bare.none
  · by_cases h2 : a.op = 2
    · exact walk_other a m w (arL 2 a) 0 .nilIface (.iface 27 (.int .i64 6)) 6 hE (by simp [h1]) (show _ = _ by simp [arRight, h2]) (fun W => refArWrite_2 a W h2 hA) (fun W => arWrite_yes 2 a W (Or.inr rfl) h2 hA) (fun W => arReply_no a m W h1) Bare.none (Bare.errno 6)
    · have hr : arRight a = false := by simp [arRight, h1, h2]
      exact walk_other a m w [] 1 (.iface 27 (.int .i64 1)) (.iface 27 (.int .i64 6)) 6 hE (by simp [h1]) (show _ = _ by rw [hr]; rfl) (fun W => refArWrite_no a W hr) (fun W => arWrite_no a W hr) (fun W => arReply_no a m W h1) (Bare.errno 1) (Bare.errno 6)

end Go.Proofs.YtnldggbhhbndfaaDoor.arpWrites
