/- switchyardkeep.ArpReply: every message and every address: true, and what was there is as it was. -/
import Derived.Test.YtnldggbhhbndfaaDoorAsked
import Derived.Test.YtnldggbhhbndfaaDoorLow
namespace Go.Proofs.YtnldggbhhbndfaaDoor.arpReply
open Go.RowKit
attribute [local go_sem ↓] Go.wp_at_zero Go.wp_at_succ
set_option linter.unusedSimpArgs false
set_option linter.unusedVariables false
set_option maxRecDepth 100000

theorem boxed (w : World) (a : Ar) (m : Nat → Nat) : Blk ((w.alloc (.cells (arC a) 26)).alloc (.cells (c6 m) 23)) w.heap.size 26 (arC a) ∧ Blk ((w.alloc (.cells (arC a) 26)).alloc (.cells (c6 m) 23)) (w.heap.size + 1) 23 (c6 m) ∧ Below w.heap.size w ((w.alloc (.cells (arC a) 26)).alloc (.cells (c6 m) 23)) := by
  refine ⟨(Blk.new w _ (arC a)).alloc _, ?_, ((Below.refl _ _).alloc (Nat.le_refl _) _).alloc (by simp) _⟩
  have h := Blk.new (w.alloc (.cells (arC a) 26)) 23 (c6 m)
  simpa using h

set_option maxHeartbeats 3200000 in
theorem walk (a : Ar) (m : Nat → Nat) (w : World) (hE : HasErr w) :
    Calls Tryd.prog 6 #[.agg (arC a), .agg (c6 m)] w fun e w' => e = .returned (.bool true) ∧ Below w.heap.size w w' := by
  obtain ⟨HA, HM, hb0⟩ := boxed w a m
  go_enter Tryd.func6, Tryd.ntmps6
  go_upto_region 1 with (fail)
  generalize (w.alloc (.cells (arC a) 26)).alloc (.cells (c6 m) 23) = w1 at *
  go_wp2_with fail
  refine (asked_any _).mono ?_
  rintro e w2 ⟨rfl, b2⟩
  have HA2 := HA.kept b2
  have HM2 := HM.kept b2
  have B2 := hb0.trans (b2.mono hb0.size)
  have c2 := HA2.cv 0 (.int .i64 a.op) rfl
  clear HA HM hb0 b2
  go_wp2_with fail
  refine (pick_any _ 2 _ (by omega) (by omega)).mono ?_
  rintro e w3 ⟨r, rfl, hr, rfl⟩
  obtain rfl | rfl : r = 0 ∨ r = 1 := by omega
  · rw [show ((0 : Nat) : Int) = 0 from rfl]
    go_upto_region 4 with (refine store_blk (k := 0) 3 (.int .i64 1) (arC ⟨1, a.sha, a.tha, a.spa, a.tpa⟩) (by rfl) rfl rfl rfl HA2 (by kernel_rfl) (by exact (by decide : 1 ≤ 21)) rfl rfl (fun w4 HA4 b4 g4 => ?_))
    have HM4 := HM2.grown g4 (by simp)
    have B4 := B2.trans b4
    clear HA2 HM2 B2 b4 g4 c2
    go_wp2_with (first | (refine load_blk (k := 0) 26 (arC ⟨1, a.sha, a.tha, a.spa, a.tpa⟩) (by rfl) rfl rfl HA4 (by kernel_rfl) (by kernel_rfl) rfl ?_) | (refine load_blk (k := 0) 23 (c6 m) (by rfl) rfl rfl HM4 (by kernel_rfl) (by kernel_rfl) rfl ?_))
    refine (arReply_yes ⟨1, a.sha, a.tha, a.spa, a.tpa⟩ m _ rfl).mono ?_
    rintro e w5 ⟨rfl, b5⟩
    have HA5 := (HA4.kept b5).alloc (.cells (arC zAr) 26)
    have HM5 := (HM4.kept b5).alloc (.cells (arC zAr) 26)
    have B5a := B4.trans (b5.mono B4.size)
    have B5 := B5a.alloc B5a.size (.cells (arC zAr) 26)
    have HZ5 := Blk.new w5 26 (arC zAr)
    have hlt : w.heap.size + 1 < w5.heap.size := (HM4.kept b5).lt
    clear HA4 HM4 B4 b5 B5a
    go_upto_region 5 with (first | (refine alloc_blk 26 (arC zAr) (by rfl) rfl Tryd.arZero ?_) | (refine store_blk (k := 0) 26 (.agg (arC (arReply ⟨1, a.sha, a.tha, a.spa, a.tpa⟩ m))) (arC (arReply ⟨1, a.sha, a.tha, a.spa, a.tpa⟩ m)) (by rfl) rfl rfl rfl HZ5 (by kernel_rfl) (by exact Nat.le_refl 21) rfl rfl (fun w6 HR6 b6 g6 => ?_)))
    have HA6 := HA5.grown g6 (by simp; omega)
    have HM6 := HM5.grown g6 (by simp; omega)
    have B6 := B5.trans (b6.mono (by omega))
    have c6' := HA6.cv 0 (.int .i64 1) rfl
    clear HA5 HM5 HZ5 B5 b6 g6
    go_wp2_with (first | (refine load_blk (k := 0) 26 (arC (arReply ⟨1, a.sha, a.tha, a.spa, a.tpa⟩ m)) (by rfl) rfl rfl HR6 (by kernel_rfl) (by kernel_rfl) rfl ?_) | (refine load_blk (k := 0) 23 (c6 m) (by rfl) rfl rfl HM6 (by kernel_rfl) (by kernel_rfl) rfl ?_))
    refine (arReply_no (arReply ⟨1, a.sha, a.tha, a.spa, a.tpa⟩ m) m _ (by show (2 : Int) ≠ 1; decide)).mono ?_
    rintro e w7 ⟨rfl, b7⟩
    have HA7 := (HA6.kept b7).alloc (.cells (arC zAr) 26)
    have HM7 := (HM6.kept b7).alloc (.cells (arC zAr) 26)
    have HR7 := (HR6.kept b7).alloc (.cells (arC zAr) 26)
    have B7a := B6.trans (b7.mono B6.size)
    have B7 := B7a.alloc B7a.size (.cells (arC zAr) 26)
    have HZ7 := Blk.new w7 26 (arC zAr)
    have hlt7 : w5.heap.size < w7.heap.size := (HR6.kept b7).lt
    clear HA6 HM6 HR6 B6 b7 B7a c6'
    go_upto_region 8 with (first | (refine alloc_blk 26 (arC zAr) (by rfl) rfl Tryd.arZero ?_) | (refine store_blk (k := 0) 26 (.agg (arC zAr)) (arC zAr) (by rfl) rfl rfl rfl HZ7 (by kernel_rfl) (by exact Nat.le_refl 21) rfl rfl (fun w8 HZ8 b8 g8 => ?_)))
    have HA8 := HA7.grown g8 (by simp; omega)
    have HM8 := HM7.grown g8 (by simp; omega)
    have HR8 := HR7.grown g8 (by simp; omega)
    have B8 := B7.trans (b8.mono (by omega))
    clear HA7 HM7 HR7 HZ7 B7 b8 g8
    go_wp2_with (refine load_blk (k := 0) 26 (arC (arReply ⟨1, a.sha, a.tha, a.spa, a.tpa⟩ m)) (by rfl) rfl rfl HR8 (by kernel_rfl) (by kernel_rfl) rfl ?_)
    refine (arRight_any (arReply ⟨1, a.sha, a.tha, a.spa, a.tpa⟩ m) _).mono ?_
    rintro e w9 ⟨rfl, b9⟩
    have HA9 := HA8.kept b9
    have HM9 := HM8.kept b9
    have HR9 := HR8.kept b9
    have B9 := B8.trans (b9.mono B8.size)
    have hE9 : HasErr w9 := hE.below B9
    rw [show arRight (arReply ⟨1, a.sha, a.tha, a.spa, a.tpa⟩ m) = true from rfl]
    clear HA8 HM8 HR8 B8 b9
    go_wp2_with (first | (refine load_blk (k := 7) 23 (c6 a.sha) (by rfl) rfl rfl HR9 (by kernel_rfl) (by kernel_rfl) rfl ?_) | (refine load_blk (k := 1) 23 (c6 a.sha) (by rfl) rfl rfl HA9 (by kernel_rfl) (by kernel_rfl) rfl ?_) | (refine load_blk (k := 17) 24 (c4 a.spa) (by rfl) rfl rfl HR9 (by kernel_rfl) (by kernel_rfl) rfl ?_) | (refine load_blk (k := 13) 24 (c4 a.spa) (by rfl) rfl rfl HA9 (by kernel_rfl) (by kernel_rfl) rfl ?_) | (refine load_blk (k := 13) 24 (c4 a.tpa) (by rfl) rfl rfl HR9 (by kernel_rfl) (by kernel_rfl) rfl ?_) | (refine load_blk (k := 17) 24 (c4 a.tpa) (by rfl) rfl rfl HA9 (by kernel_rfl) (by kernel_rfl) rfl ?_) | (refine load_blk (k := 1) 23 (c6 m) (by rfl) rfl rfl HR9 (by kernel_rfl) (by kernel_rfl) rfl ?_) | (refine load_blk (k := 0) 23 (c6 m) (by rfl) rfl rfl HM9 (by kernel_rfl) (by kernel_rfl) rfl ?_) | (refine eq_blk .eql 23 (c6 a.sha) (c6 a.sha) true (by rfl) rfl (by first | exact Or.inl rfl | exact Or.inr rfl) rfl rfl Tryd.addrGuard ((by have h := run_eql_c6 9998 a.sha a.sha; rw [eqN_refl] at h; exact h _)) ?_) | (refine eq_blk .eql 24 (c4 a.spa) (c4 a.spa) true (by rfl) rfl (by first | exact Or.inl rfl | exact Or.inr rfl) rfl rfl Tryd.fourGuard ((by have h := run_eql_c4 9998 a.spa a.spa; rw [eqN_refl] at h; exact h _)) ?_) | (refine eq_blk .eql 24 (c4 a.tpa) (c4 a.tpa) true (by rfl) rfl (by first | exact Or.inl rfl | exact Or.inr rfl) rfl rfl Tryd.fourGuard ((by have h := run_eql_c4 9998 a.tpa a.tpa; rw [eqN_refl] at h; exact h _)) ?_) | (refine eq_blk .eql 23 (c6 m) (c6 m) true (by rfl) rfl (by first | exact Or.inl rfl | exact Or.inr rfl) rfl rfl Tryd.addrGuard ((by have h := run_eql_c6 9998 m m; rw [eqN_refl] at h; exact h _)) ?_))
    refine (tell_errno 6 _ hE9).mono ?_
    rintro e w10 ⟨rfl, b10⟩
    have B10 := B9.trans (b10.mono B9.size)
    go_wp2
    go_ret
    exact ⟨rfl, B10⟩
  · rw [show ((1 : Nat) : Int) = 1 from rfl]
    go_upto_region 4 with (refine store_blk (k := 0) 3 (.int .i64 2) (arC ⟨2, a.sha, a.tha, a.spa, a.tpa⟩) (by rfl) rfl rfl rfl HA2 (by kernel_rfl) (by exact (by decide : 1 ≤ 21)) rfl rfl (fun w4 HA4 b4 g4 => ?_))
    have HM4 := HM2.grown g4 (by simp)
    have B4 := B2.trans b4
    clear HA2 HM2 B2 b4 g4 c2
    go_wp2_with (first | (refine load_blk (k := 0) 26 (arC ⟨2, a.sha, a.tha, a.spa, a.tpa⟩) (by rfl) rfl rfl HA4 (by kernel_rfl) (by kernel_rfl) rfl ?_) | (refine load_blk (k := 0) 23 (c6 m) (by rfl) rfl rfl HM4 (by kernel_rfl) (by kernel_rfl) rfl ?_))
    refine (arReply_no ⟨2, a.sha, a.tha, a.spa, a.tpa⟩ m _ (by show (2 : Int) ≠ 1; decide)).mono ?_
    rintro e w5 ⟨rfl, b5⟩
    have HA5 := (HA4.kept b5).alloc (.cells (arC zAr) 26)
    have HM5 := (HM4.kept b5).alloc (.cells (arC zAr) 26)
    have B5a := B4.trans (b5.mono B4.size)
    have B5 := B5a.alloc B5a.size (.cells (arC zAr) 26)
    have HZ5 := Blk.new w5 26 (arC zAr)
    have hlt : w.heap.size + 1 < w5.heap.size := (HM4.kept b5).lt
    clear HA4 HM4 B4 b5 B5a
    go_upto_region 5 with (first | (refine alloc_blk 26 (arC zAr) (by rfl) rfl Tryd.arZero ?_) | (refine store_blk (k := 0) 26 (.agg (arC zAr)) (arC zAr) (by rfl) rfl rfl rfl HZ5 (by kernel_rfl) (by exact Nat.le_refl 21) rfl rfl (fun w6 HR6 b6 g6 => ?_)))
    have HA6 := HA5.grown g6 (by simp; omega)
    have HM6 := HM5.grown g6 (by simp; omega)
    have B6 := B5.trans (b6.mono (by omega))
    have c6' := HA6.cv 0 (.int .i64 2) rfl
    clear HA5 HM5 HZ5 B5 b6 g6
    have hE6 : HasErr w6 := hE.below B6
    go_wp2_with fail
    refine (tell_errno 6 _ hE6).mono ?_
    rintro e w7 ⟨rfl, b7⟩
    have HR7 := HR6.kept b7
    have B7 := B6.trans (b7.mono B6.size)
    clear HA6 HM6 HR6 B6 b7 hE6 c6'
    go_wp2_with (first | (refine load_blk (k := 0) 26 (arC zAr) (by rfl) rfl rfl HR7 (by kernel_rfl) (by kernel_rfl) rfl ?_) | (refine build_blk (t := 26) (arC zAr) (by rfl) rfl (by kernel_rfl) ?_) | (refine eq_blk .eql 26 (arC zAr) (arC zAr) true (by rfl) rfl (by first | exact Or.inl rfl | exact Or.inr rfl) rfl rfl Tryd.arGuard ((by have h := run_eql_ar zAr zAr; rw [eqAr_refl] at h; exact h _)) ?_))
    go_ret
    exact ⟨rfl, B7⟩

end Go.Proofs.YtnldggbhhbndfaaDoor.arpReply
