/- How prio holds names and vectors against each other. -/
import Derived.Test.YtceiiolpggolbaaDoorCmp
namespace Go.Proofs.YtceiiolpggolbaaDoor
open Go.RowKit
attribute [local go_sem ↓] Go.wp_at_zero Go.wp_at_succ
set_option linter.unusedSimpArgs false
set_option linter.unusedVariables false
set_option maxRecDepth 100000

theorem less_six (x y : Nat → Nat) (hx : ∀ i, x i < 256) (hy : ∀ i, y i < 256) (w : World) :
    Calls Tryd.prog 90 #[.agg (c6 x), .agg (c6 y)] w fun e w' => e = .returned (.bool (decide (cmpL (sixI x) (sixI y) < 0))) ∧ Below w.heap.size w w' := by
  have h := less_any x y hx hy w
  rw [addrL_less hx hy, six_cmp hx hy] at h
  exact h

set_option maxHeartbeats 800000 in
theorem compareAddrs_any (x y : Nat → Nat) (hx : ∀ i, x i < 256) (hy : ∀ i, y i < 256) (w : World) :
    Calls Tryd.prog 77 #[.agg (c6 x), .agg (c6 y)] w fun e w' => e = .returned (.int .i64 (cmpL (sixI x) (sixI y))) ∧ Below w.heap.size w w' := by
  have h1 := fun w => less_six x y hx hy w
  have h2 := fun w => less_six y x hy hx w
  have hs := cmpL_swap (sixI x) (sixI y)
  have hr := cmpL_range (sixI x) (sixI y)
  rw [hs] at h2
  generalize cmpL (sixI x) (sixI y) = r at *
  have H1 := Lib.hid h1
  have H2 := Lib.hid h2
  clear h1 h2 hs
  obtain ⟨HA, HB, B1⟩ := two_blks w 23 23 (c6 x) (c6 y)
  rcases hr with rfl | rfl | rfl
  · go_enter Tryd.func77, Tryd.ntmps77
    go_upto_region 1 with (fail)
    generalize (w.alloc (.cells (c6 x) 23)).alloc (.cells (c6 y) 23) = w1 at *
    go_wp2_with (first | (refine load_blk (k := 0) 23 (c6 x) (by rfl) rfl rfl HA (by kernel_rfl) (by kernel_rfl) rfl ?_) | (refine load_blk (k := 0) 23 (c6 y) (by rfl) rfl rfl HB (by kernel_rfl) (by kernel_rfl) rfl ?_))
    refine (H1.out _).mono ?_
    rintro e w2 ⟨rfl, k1⟩
    go_wp2
    go_ret
    exact ⟨rfl, B1.trans (k1.mono B1.size)⟩
  all_goals (
    go_enter Tryd.func77, Tryd.ntmps77
    go_upto_region 1 with (fail)
    generalize (w.alloc (.cells (c6 x) 23)).alloc (.cells (c6 y) 23) = w1 at *
    go_wp2_with (first | (refine load_blk (k := 0) 23 (c6 x) (by rfl) rfl rfl HA (by kernel_rfl) (by kernel_rfl) rfl ?_) | (refine load_blk (k := 0) 23 (c6 y) (by rfl) rfl rfl HB (by kernel_rfl) (by kernel_rfl) rfl ?_))
    refine (H1.out _).mono ?_
    rintro e w2 ⟨rfl, k1⟩
    have HA2 := HA.kept k1
    have HB2 := HB.kept k1
    have B2 := B1.trans (k1.mono B1.size)
    clear HA HB k1 B1
    go_wp2_with (first | (refine load_blk (k := 0) 23 (c6 x) (by rfl) rfl rfl HA2 (by kernel_rfl) (by kernel_rfl) rfl ?_) | (refine load_blk (k := 0) 23 (c6 y) (by rfl) rfl rfl HB2 (by kernel_rfl) (by kernel_rfl) rfl ?_))
    refine (H2.out _).mono ?_
    rintro e w3 ⟨rfl, k2⟩
    go_wp2
    go_ret
    exact ⟨rfl, B2.trans (k2.mono B2.size)⟩)

set_option maxHeartbeats 1600000 in
theorem comparePorts_any (p n q m : Int) (w : World) :
    Calls Tryd.prog 61 #[.agg (ptC p n), .agg (ptC q m)] w fun e w' => e = .returned (.int .i64 (orI [cmpI p q, cmpI n m])) ∧ Below w.heap.size w w' := by
  obtain ⟨HA, HB, B1⟩ := two_blks w 27 27 (ptC p n) (ptC q m)
  go_enter Tryd.func61, Tryd.ntmps61
  go_upto_region 1 with (fail)
  generalize (w.alloc (.cells (ptC p n) 27)).alloc (.cells (ptC q m) 27) = w1 at *
  go_region_held3 (fun w' => w'.cell? ⟨w.heap.size, 0, none⟩ = some (.int .i64 p) ∧ w'.cell? ⟨w.heap.size, 1, none⟩ = some (.int .i64 n) ∧ w'.cell? ⟨w.heap.size + 1, 0, none⟩ = some (.int .i64 q) ∧ w'.cell? ⟨w.heap.size + 1, 1, none⟩ = some (.int .i64 m))
    (first
      | exact ⟨(HA).cv 0 _ rfl, (HA).cv 1 _ rfl, (HB).cv 0 _ rfl, (HB).cv 1 _ rfl⟩
      | exact ⟨(HA.drew).cv 0 _ rfl, (HA.drew).cv 1 _ rfl, (HB.drew).cv 0 _ rfl, (HB.drew).cv 1 _ rfl⟩
      | exact ⟨(HA.drew.alloc _).cv 0 _ rfl, (HA.drew.alloc _).cv 1 _ rfl, (HB.drew.alloc _).cv 0 _ rfl, (HB.drew.alloc _).cv 1 _ rfl⟩)
    (first
      | (go_at_call 60; (with_reducible refine (compare_int _ _ _).mono ?_); rintro e w2 ⟨rfl, rfl⟩)
      | (go_at_call 59; (with_reducible refine (or_two w1.heap.size 2 (cmpI p q) (cmpI n m) _ ?_).mono ?_); (exact ints_two _ _ _ _); rintro e w2 ⟨rfl, rfl⟩))
  all_goals (
    go_wp2
    go_ret
    exact ⟨rfl, (B1.drew).alloc (by simpa using B1.size) _⟩)

set_option maxHeartbeats 3200000 in
theorem compareBridges_any (a b : Br) (ha : ∀ i, a.a i < 256) (hb : ∀ i, b.a i < 256) (w : World) :
    Calls Tryd.prog 58 #[.agg (brC a), .agg (brC b)] w fun e w' => e = .returned (.int .i64 (cmpL (numsB a) (numsB b))) ∧ Below w.heap.size w w' := by
  obtain ⟨HA, HB, B1⟩ := two_blks w 25 25 (brC a) (brC b)
  have HR := Lib.hid (lessB_parts a b)
  have HD := Lib.hid (fun w => compareAddrs_any a.a b.a ha hb w)
  rw [HR.out]
  generalize cmpL (sixI a.a) (sixI b.a) = z at *
  unfold c6 at HD
  clear HR
  go_enter Tryd.func58, Tryd.ntmps58
  go_upto_region 1 with (fail)
  generalize (w.alloc (.cells (brC a) 25)).alloc (.cells (brC b) 25) = w1 at *
  go_region_held3 (fun w' => w'.cell? ⟨w.heap.size, 0, none⟩ = some (.int .i64 a.p) ∧ w'.cell? ⟨w.heap.size, 1, none⟩ = some (.int .i64 a.e) ∧ w'.cell? ⟨w.heap.size, 2, none⟩ = some (.int .u8 (a.a 0)) ∧ w'.cell? ⟨w.heap.size, 3, none⟩ = some (.int .u8 (a.a 1)) ∧ w'.cell? ⟨w.heap.size, 4, none⟩ = some (.int .u8 (a.a 2)) ∧ w'.cell? ⟨w.heap.size, 5, none⟩ = some (.int .u8 (a.a 3)) ∧ w'.cell? ⟨w.heap.size, 6, none⟩ = some (.int .u8 (a.a 4)) ∧ w'.cell? ⟨w.heap.size, 7, none⟩ = some (.int .u8 (a.a 5)) ∧ w'.cell? ⟨w.heap.size + 1, 0, none⟩ = some (.int .i64 b.p) ∧ w'.cell? ⟨w.heap.size + 1, 1, none⟩ = some (.int .i64 b.e) ∧ w'.cell? ⟨w.heap.size + 1, 2, none⟩ = some (.int .u8 (b.a 0)) ∧ w'.cell? ⟨w.heap.size + 1, 3, none⟩ = some (.int .u8 (b.a 1)) ∧ w'.cell? ⟨w.heap.size + 1, 4, none⟩ = some (.int .u8 (b.a 2)) ∧ w'.cell? ⟨w.heap.size + 1, 5, none⟩ = some (.int .u8 (b.a 3)) ∧ w'.cell? ⟨w.heap.size + 1, 6, none⟩ = some (.int .u8 (b.a 4)) ∧ w'.cell? ⟨w.heap.size + 1, 7, none⟩ = some (.int .u8 (b.a 5)))
    (first
      | exact ⟨(HA2.alloc _).cv 0 _ rfl, (HA2.alloc _).cv 1 _ rfl, (HA2.alloc _).cv 2 _ rfl, (HA2.alloc _).cv 3 _ rfl, (HA2.alloc _).cv 4 _ rfl, (HA2.alloc _).cv 5 _ rfl, (HA2.alloc _).cv 6 _ rfl, (HA2.alloc _).cv 7 _ rfl, (HB2.alloc _).cv 0 _ rfl, (HB2.alloc _).cv 1 _ rfl, (HB2.alloc _).cv 2 _ rfl, (HB2.alloc _).cv 3 _ rfl, (HB2.alloc _).cv 4 _ rfl, (HB2.alloc _).cv 5 _ rfl, (HB2.alloc _).cv 6 _ rfl, (HB2.alloc _).cv 7 _ rfl⟩
      | exact ⟨(HA2).cv 0 _ rfl, (HA2).cv 1 _ rfl, (HA2).cv 2 _ rfl, (HA2).cv 3 _ rfl, (HA2).cv 4 _ rfl, (HA2).cv 5 _ rfl, (HA2).cv 6 _ rfl, (HA2).cv 7 _ rfl, (HB2).cv 0 _ rfl, (HB2).cv 1 _ rfl, (HB2).cv 2 _ rfl, (HB2).cv 3 _ rfl, (HB2).cv 4 _ rfl, (HB2).cv 5 _ rfl, (HB2).cv 6 _ rfl, (HB2).cv 7 _ rfl⟩
      | exact ⟨(HA).cv 0 _ rfl, (HA).cv 1 _ rfl, (HA).cv 2 _ rfl, (HA).cv 3 _ rfl, (HA).cv 4 _ rfl, (HA).cv 5 _ rfl, (HA).cv 6 _ rfl, (HA).cv 7 _ rfl, (HB).cv 0 _ rfl, (HB).cv 1 _ rfl, (HB).cv 2 _ rfl, (HB).cv 3 _ rfl, (HB).cv 4 _ rfl, (HB).cv 5 _ rfl, (HB).cv 6 _ rfl, (HB).cv 7 _ rfl⟩
      | exact ⟨(HA.drew).cv 0 _ rfl, (HA.drew).cv 1 _ rfl, (HA.drew).cv 2 _ rfl, (HA.drew).cv 3 _ rfl, (HA.drew).cv 4 _ rfl, (HA.drew).cv 5 _ rfl, (HA.drew).cv 6 _ rfl, (HA.drew).cv 7 _ rfl, (HB.drew).cv 0 _ rfl, (HB.drew).cv 1 _ rfl, (HB.drew).cv 2 _ rfl, (HB.drew).cv 3 _ rfl, (HB.drew).cv 4 _ rfl, (HB.drew).cv 5 _ rfl, (HB.drew).cv 6 _ rfl, (HB.drew).cv 7 _ rfl⟩)
    (first
      | (go_at_call 60; (with_reducible refine (compare_int _ _ _).mono ?_); rintro e w2 ⟨rfl, rfl⟩)
      | (go_at_call 77; (with_reducible refine (HD.out _).mono ?_); rintro e w2 ⟨rfl, k2⟩; have HA2 := HA.drew.kept k2; have HB2 := HB.drew.kept k2; have B2 := B1.drew.trans (k2.mono B1.drew.size))
      | (go_at_call 59; (with_reducible refine (or_three w2.heap.size 3 (cmpI a.p b.p) (cmpI a.e b.e) z _ ?_).mono ?_); (exact ints_three _ _ _ _ _); rintro e w3 ⟨rfl, rfl⟩))
  all_goals (
    go_wp2
    go_ret
    exact ⟨rfl, (B2).alloc (by simpa using B2.size) _⟩)

end Go.Proofs.YtceiiolpggolbaaDoor
