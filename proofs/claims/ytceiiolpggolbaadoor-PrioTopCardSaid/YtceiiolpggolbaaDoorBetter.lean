/- prio.Less, prio.Better at every two. -/
import Derived.Test.YtceiiolpggolbaaDoorCmpB
namespace Go.Proofs.YtceiiolpggolbaaDoor
open Go.RowKit
attribute [local go_sem ↓] Go.wp_at_zero Go.wp_at_succ
set_option linter.unusedSimpArgs false
set_option linter.unusedVariables false
set_option maxRecDepth 100000

theorem prioLess_any (a b : Br) (ha : ∀ i, a.a i < 256) (hb : ∀ i, b.a i < 256) (w : World) :
    Calls Tryd.prog 33 #[.agg (brC a), .agg (brC b)] w fun e w' => e = .returned (.bool (lessB a b)) ∧ Below w.heap.size w w' := by
  obtain ⟨HA, HB, B1⟩ := two_blks w 25 25 (brC a) (brC b)
  go_enter Tryd.func33, Tryd.ntmps33
  go_upto_region 1 with (fail)
  generalize (w.alloc (.cells (brC a) 25)).alloc (.cells (brC b) 25) = w1 at *
  go_wp2_with (first | (refine load_blk (k := 0) 25 (brC a) (by rfl) rfl rfl HA (by kernel_rfl) (by kernel_rfl) rfl ?_) | (refine load_blk (k := 0) 25 (brC b) (by rfl) rfl rfl HB (by kernel_rfl) (by kernel_rfl) rfl ?_))
  refine (compareBridges_any a b ha hb _).mono ?_
  rintro e w2 ⟨rfl, k2⟩
  go_wp2
  go_ret
  exact ⟨rfl, B1.trans (k2.mono B1.size)⟩

set_option maxHeartbeats 6400000 in
theorem better_any (a b : Ve) (ha : byV a) (hb : byV b) (w : World) :
    Calls Tryd.prog 34 #[.agg (veC a), .agg (veC b)] w fun e w' => e = .returned (.bool (bettV a b)) ∧ Below w.heap.size w w' := by
  obtain ⟨HA, HB, B1⟩ := two_blks w 62 62 (veC a) (veC b)
  have HR := bettV_parts a b
  have HD1 := Lib.hid (fun w => compareBridges_any a.root b.root ha.1 hb.1 w)
  have HD2 := Lib.hid (fun w => compareBridges_any a.sender b.sender ha.2 hb.2 w)
  have HP1 := Lib.hid (fun w => comparePorts_any a.pp a.pn b.pp b.pn w)
  have HP2 := Lib.hid (fun w => comparePorts_any a.ap a.an b.ap b.an w)
  unfold bettV
  rw [HR]
  generalize cmpL (numsB a.root) (numsB b.root) = z1 at *
  generalize cmpL (numsB a.sender) (numsB b.sender) = z2 at *
  generalize orI [cmpI a.pp b.pp, cmpI a.pn b.pn] = z3 at *
  generalize orI [cmpI a.ap b.ap, cmpI a.an b.an] = z4 at *
  clear HR
  unfold brC at HD1 HD2
  unfold ptC at HP1 HP2
  go_enter Tryd.func34, Tryd.ntmps34
  go_upto_region 1 with (fail)
  generalize (w.alloc (.cells (veC a) 62)).alloc (.cells (veC b) 62) = w1 at *
  go_region_held3 (fun w' => w'.cell? ⟨w.heap.size, 0, none⟩ = some (.int .i64 a.root.p) ∧ w'.cell? ⟨w.heap.size, 1, none⟩ = some (.int .i64 a.root.e) ∧ w'.cell? ⟨w.heap.size, 2, none⟩ = some (.int .u8 (a.root.a 0)) ∧ w'.cell? ⟨w.heap.size, 3, none⟩ = some (.int .u8 (a.root.a 1)) ∧ w'.cell? ⟨w.heap.size, 4, none⟩ = some (.int .u8 (a.root.a 2)) ∧ w'.cell? ⟨w.heap.size, 5, none⟩ = some (.int .u8 (a.root.a 3)) ∧ w'.cell? ⟨w.heap.size, 6, none⟩ = some (.int .u8 (a.root.a 4)) ∧ w'.cell? ⟨w.heap.size, 7, none⟩ = some (.int .u8 (a.root.a 5)) ∧ w'.cell? ⟨w.heap.size, 8, none⟩ = some (.int .i64 a.cost) ∧ w'.cell? ⟨w.heap.size, 9, none⟩ = some (.int .i64 a.sender.p) ∧ w'.cell? ⟨w.heap.size, 10, none⟩ = some (.int .i64 a.sender.e) ∧ w'.cell? ⟨w.heap.size, 11, none⟩ = some (.int .u8 (a.sender.a 0)) ∧ w'.cell? ⟨w.heap.size, 12, none⟩ = some (.int .u8 (a.sender.a 1)) ∧ w'.cell? ⟨w.heap.size, 13, none⟩ = some (.int .u8 (a.sender.a 2)) ∧ w'.cell? ⟨w.heap.size, 14, none⟩ = some (.int .u8 (a.sender.a 3)) ∧ w'.cell? ⟨w.heap.size, 15, none⟩ = some (.int .u8 (a.sender.a 4)) ∧ w'.cell? ⟨w.heap.size, 16, none⟩ = some (.int .u8 (a.sender.a 5)) ∧ w'.cell? ⟨w.heap.size, 17, none⟩ = some (.int .i64 a.pp) ∧ w'.cell? ⟨w.heap.size, 18, none⟩ = some (.int .i64 a.pn) ∧ w'.cell? ⟨w.heap.size, 19, none⟩ = some (.int .i64 a.ap) ∧ w'.cell? ⟨w.heap.size, 20, none⟩ = some (.int .i64 a.an) ∧ w'.cell? ⟨w.heap.size + 1, 0, none⟩ = some (.int .i64 b.root.p) ∧ w'.cell? ⟨w.heap.size + 1, 1, none⟩ = some (.int .i64 b.root.e) ∧ w'.cell? ⟨w.heap.size + 1, 2, none⟩ = some (.int .u8 (b.root.a 0)) ∧ w'.cell? ⟨w.heap.size + 1, 3, none⟩ = some (.int .u8 (b.root.a 1)) ∧ w'.cell? ⟨w.heap.size + 1, 4, none⟩ = some (.int .u8 (b.root.a 2)) ∧ w'.cell? ⟨w.heap.size + 1, 5, none⟩ = some (.int .u8 (b.root.a 3)) ∧ w'.cell? ⟨w.heap.size + 1, 6, none⟩ = some (.int .u8 (b.root.a 4)) ∧ w'.cell? ⟨w.heap.size + 1, 7, none⟩ = some (.int .u8 (b.root.a 5)) ∧ w'.cell? ⟨w.heap.size + 1, 8, none⟩ = some (.int .i64 b.cost) ∧ w'.cell? ⟨w.heap.size + 1, 9, none⟩ = some (.int .i64 b.sender.p) ∧ w'.cell? ⟨w.heap.size + 1, 10, none⟩ = some (.int .i64 b.sender.e) ∧ w'.cell? ⟨w.heap.size + 1, 11, none⟩ = some (.int .u8 (b.sender.a 0)) ∧ w'.cell? ⟨w.heap.size + 1, 12, none⟩ = some (.int .u8 (b.sender.a 1)) ∧ w'.cell? ⟨w.heap.size + 1, 13, none⟩ = some (.int .u8 (b.sender.a 2)) ∧ w'.cell? ⟨w.heap.size + 1, 14, none⟩ = some (.int .u8 (b.sender.a 3)) ∧ w'.cell? ⟨w.heap.size + 1, 15, none⟩ = some (.int .u8 (b.sender.a 4)) ∧ w'.cell? ⟨w.heap.size + 1, 16, none⟩ = some (.int .u8 (b.sender.a 5)) ∧ w'.cell? ⟨w.heap.size + 1, 17, none⟩ = some (.int .i64 b.pp) ∧ w'.cell? ⟨w.heap.size + 1, 18, none⟩ = some (.int .i64 b.pn) ∧ w'.cell? ⟨w.heap.size + 1, 19, none⟩ = some (.int .i64 b.ap) ∧ w'.cell? ⟨w.heap.size + 1, 20, none⟩ = some (.int .i64 b.an))
    (first
      | exact ⟨(HA5.alloc _).cv 0 _ rfl, (HA5.alloc _).cv 1 _ rfl, (HA5.alloc _).cv 2 _ rfl, (HA5.alloc _).cv 3 _ rfl, (HA5.alloc _).cv 4 _ rfl, (HA5.alloc _).cv 5 _ rfl, (HA5.alloc _).cv 6 _ rfl, (HA5.alloc _).cv 7 _ rfl, (HA5.alloc _).cv 8 _ rfl, (HA5.alloc _).cv 9 _ rfl, (HA5.alloc _).cv 10 _ rfl, (HA5.alloc _).cv 11 _ rfl, (HA5.alloc _).cv 12 _ rfl, (HA5.alloc _).cv 13 _ rfl, (HA5.alloc _).cv 14 _ rfl, (HA5.alloc _).cv 15 _ rfl, (HA5.alloc _).cv 16 _ rfl, (HA5.alloc _).cv 17 _ rfl, (HA5.alloc _).cv 18 _ rfl, (HA5.alloc _).cv 19 _ rfl, (HA5.alloc _).cv 20 _ rfl, (HB5.alloc _).cv 0 _ rfl, (HB5.alloc _).cv 1 _ rfl, (HB5.alloc _).cv 2 _ rfl, (HB5.alloc _).cv 3 _ rfl, (HB5.alloc _).cv 4 _ rfl, (HB5.alloc _).cv 5 _ rfl, (HB5.alloc _).cv 6 _ rfl, (HB5.alloc _).cv 7 _ rfl, (HB5.alloc _).cv 8 _ rfl, (HB5.alloc _).cv 9 _ rfl, (HB5.alloc _).cv 10 _ rfl, (HB5.alloc _).cv 11 _ rfl, (HB5.alloc _).cv 12 _ rfl, (HB5.alloc _).cv 13 _ rfl, (HB5.alloc _).cv 14 _ rfl, (HB5.alloc _).cv 15 _ rfl, (HB5.alloc _).cv 16 _ rfl, (HB5.alloc _).cv 17 _ rfl, (HB5.alloc _).cv 18 _ rfl, (HB5.alloc _).cv 19 _ rfl, (HB5.alloc _).cv 20 _ rfl⟩
      | exact ⟨(HA5).cv 0 _ rfl, (HA5).cv 1 _ rfl, (HA5).cv 2 _ rfl, (HA5).cv 3 _ rfl, (HA5).cv 4 _ rfl, (HA5).cv 5 _ rfl, (HA5).cv 6 _ rfl, (HA5).cv 7 _ rfl, (HA5).cv 8 _ rfl, (HA5).cv 9 _ rfl, (HA5).cv 10 _ rfl, (HA5).cv 11 _ rfl, (HA5).cv 12 _ rfl, (HA5).cv 13 _ rfl, (HA5).cv 14 _ rfl, (HA5).cv 15 _ rfl, (HA5).cv 16 _ rfl, (HA5).cv 17 _ rfl, (HA5).cv 18 _ rfl, (HA5).cv 19 _ rfl, (HA5).cv 20 _ rfl, (HB5).cv 0 _ rfl, (HB5).cv 1 _ rfl, (HB5).cv 2 _ rfl, (HB5).cv 3 _ rfl, (HB5).cv 4 _ rfl, (HB5).cv 5 _ rfl, (HB5).cv 6 _ rfl, (HB5).cv 7 _ rfl, (HB5).cv 8 _ rfl, (HB5).cv 9 _ rfl, (HB5).cv 10 _ rfl, (HB5).cv 11 _ rfl, (HB5).cv 12 _ rfl, (HB5).cv 13 _ rfl, (HB5).cv 14 _ rfl, (HB5).cv 15 _ rfl, (HB5).cv 16 _ rfl, (HB5).cv 17 _ rfl, (HB5).cv 18 _ rfl, (HB5).cv 19 _ rfl, (HB5).cv 20 _ rfl⟩
      | exact ⟨(HA4).cv 0 _ rfl, (HA4).cv 1 _ rfl, (HA4).cv 2 _ rfl, (HA4).cv 3 _ rfl, (HA4).cv 4 _ rfl, (HA4).cv 5 _ rfl, (HA4).cv 6 _ rfl, (HA4).cv 7 _ rfl, (HA4).cv 8 _ rfl, (HA4).cv 9 _ rfl, (HA4).cv 10 _ rfl, (HA4).cv 11 _ rfl, (HA4).cv 12 _ rfl, (HA4).cv 13 _ rfl, (HA4).cv 14 _ rfl, (HA4).cv 15 _ rfl, (HA4).cv 16 _ rfl, (HA4).cv 17 _ rfl, (HA4).cv 18 _ rfl, (HA4).cv 19 _ rfl, (HA4).cv 20 _ rfl, (HB4).cv 0 _ rfl, (HB4).cv 1 _ rfl, (HB4).cv 2 _ rfl, (HB4).cv 3 _ rfl, (HB4).cv 4 _ rfl, (HB4).cv 5 _ rfl, (HB4).cv 6 _ rfl, (HB4).cv 7 _ rfl, (HB4).cv 8 _ rfl, (HB4).cv 9 _ rfl, (HB4).cv 10 _ rfl, (HB4).cv 11 _ rfl, (HB4).cv 12 _ rfl, (HB4).cv 13 _ rfl, (HB4).cv 14 _ rfl, (HB4).cv 15 _ rfl, (HB4).cv 16 _ rfl, (HB4).cv 17 _ rfl, (HB4).cv 18 _ rfl, (HB4).cv 19 _ rfl, (HB4).cv 20 _ rfl⟩
      | exact ⟨(HA3).cv 0 _ rfl, (HA3).cv 1 _ rfl, (HA3).cv 2 _ rfl, (HA3).cv 3 _ rfl, (HA3).cv 4 _ rfl, (HA3).cv 5 _ rfl, (HA3).cv 6 _ rfl, (HA3).cv 7 _ rfl, (HA3).cv 8 _ rfl, (HA3).cv 9 _ rfl, (HA3).cv 10 _ rfl, (HA3).cv 11 _ rfl, (HA3).cv 12 _ rfl, (HA3).cv 13 _ rfl, (HA3).cv 14 _ rfl, (HA3).cv 15 _ rfl, (HA3).cv 16 _ rfl, (HA3).cv 17 _ rfl, (HA3).cv 18 _ rfl, (HA3).cv 19 _ rfl, (HA3).cv 20 _ rfl, (HB3).cv 0 _ rfl, (HB3).cv 1 _ rfl, (HB3).cv 2 _ rfl, (HB3).cv 3 _ rfl, (HB3).cv 4 _ rfl, (HB3).cv 5 _ rfl, (HB3).cv 6 _ rfl, (HB3).cv 7 _ rfl, (HB3).cv 8 _ rfl, (HB3).cv 9 _ rfl, (HB3).cv 10 _ rfl, (HB3).cv 11 _ rfl, (HB3).cv 12 _ rfl, (HB3).cv 13 _ rfl, (HB3).cv 14 _ rfl, (HB3).cv 15 _ rfl, (HB3).cv 16 _ rfl, (HB3).cv 17 _ rfl, (HB3).cv 18 _ rfl, (HB3).cv 19 _ rfl, (HB3).cv 20 _ rfl⟩
      | exact ⟨(HA2).cv 0 _ rfl, (HA2).cv 1 _ rfl, (HA2).cv 2 _ rfl, (HA2).cv 3 _ rfl, (HA2).cv 4 _ rfl, (HA2).cv 5 _ rfl, (HA2).cv 6 _ rfl, (HA2).cv 7 _ rfl, (HA2).cv 8 _ rfl, (HA2).cv 9 _ rfl, (HA2).cv 10 _ rfl, (HA2).cv 11 _ rfl, (HA2).cv 12 _ rfl, (HA2).cv 13 _ rfl, (HA2).cv 14 _ rfl, (HA2).cv 15 _ rfl, (HA2).cv 16 _ rfl, (HA2).cv 17 _ rfl, (HA2).cv 18 _ rfl, (HA2).cv 19 _ rfl, (HA2).cv 20 _ rfl, (HB2).cv 0 _ rfl, (HB2).cv 1 _ rfl, (HB2).cv 2 _ rfl, (HB2).cv 3 _ rfl, (HB2).cv 4 _ rfl, (HB2).cv 5 _ rfl, (HB2).cv 6 _ rfl, (HB2).cv 7 _ rfl, (HB2).cv 8 _ rfl, (HB2).cv 9 _ rfl, (HB2).cv 10 _ rfl, (HB2).cv 11 _ rfl, (HB2).cv 12 _ rfl, (HB2).cv 13 _ rfl, (HB2).cv 14 _ rfl, (HB2).cv 15 _ rfl, (HB2).cv 16 _ rfl, (HB2).cv 17 _ rfl, (HB2).cv 18 _ rfl, (HB2).cv 19 _ rfl, (HB2).cv 20 _ rfl⟩
      | exact ⟨(HA).cv 0 _ rfl, (HA).cv 1 _ rfl, (HA).cv 2 _ rfl, (HA).cv 3 _ rfl, (HA).cv 4 _ rfl, (HA).cv 5 _ rfl, (HA).cv 6 _ rfl, (HA).cv 7 _ rfl, (HA).cv 8 _ rfl, (HA).cv 9 _ rfl, (HA).cv 10 _ rfl, (HA).cv 11 _ rfl, (HA).cv 12 _ rfl, (HA).cv 13 _ rfl, (HA).cv 14 _ rfl, (HA).cv 15 _ rfl, (HA).cv 16 _ rfl, (HA).cv 17 _ rfl, (HA).cv 18 _ rfl, (HA).cv 19 _ rfl, (HA).cv 20 _ rfl, (HB).cv 0 _ rfl, (HB).cv 1 _ rfl, (HB).cv 2 _ rfl, (HB).cv 3 _ rfl, (HB).cv 4 _ rfl, (HB).cv 5 _ rfl, (HB).cv 6 _ rfl, (HB).cv 7 _ rfl, (HB).cv 8 _ rfl, (HB).cv 9 _ rfl, (HB).cv 10 _ rfl, (HB).cv 11 _ rfl, (HB).cv 12 _ rfl, (HB).cv 13 _ rfl, (HB).cv 14 _ rfl, (HB).cv 15 _ rfl, (HB).cv 16 _ rfl, (HB).cv 17 _ rfl, (HB).cv 18 _ rfl, (HB).cv 19 _ rfl, (HB).cv 20 _ rfl⟩
      | exact ⟨(HA.drew).cv 0 _ rfl, (HA.drew).cv 1 _ rfl, (HA.drew).cv 2 _ rfl, (HA.drew).cv 3 _ rfl, (HA.drew).cv 4 _ rfl, (HA.drew).cv 5 _ rfl, (HA.drew).cv 6 _ rfl, (HA.drew).cv 7 _ rfl, (HA.drew).cv 8 _ rfl, (HA.drew).cv 9 _ rfl, (HA.drew).cv 10 _ rfl, (HA.drew).cv 11 _ rfl, (HA.drew).cv 12 _ rfl, (HA.drew).cv 13 _ rfl, (HA.drew).cv 14 _ rfl, (HA.drew).cv 15 _ rfl, (HA.drew).cv 16 _ rfl, (HA.drew).cv 17 _ rfl, (HA.drew).cv 18 _ rfl, (HA.drew).cv 19 _ rfl, (HA.drew).cv 20 _ rfl, (HB.drew).cv 0 _ rfl, (HB.drew).cv 1 _ rfl, (HB.drew).cv 2 _ rfl, (HB.drew).cv 3 _ rfl, (HB.drew).cv 4 _ rfl, (HB.drew).cv 5 _ rfl, (HB.drew).cv 6 _ rfl, (HB.drew).cv 7 _ rfl, (HB.drew).cv 8 _ rfl, (HB.drew).cv 9 _ rfl, (HB.drew).cv 10 _ rfl, (HB.drew).cv 11 _ rfl, (HB.drew).cv 12 _ rfl, (HB.drew).cv 13 _ rfl, (HB.drew).cv 14 _ rfl, (HB.drew).cv 15 _ rfl, (HB.drew).cv 16 _ rfl, (HB.drew).cv 17 _ rfl, (HB.drew).cv 18 _ rfl, (HB.drew).cv 19 _ rfl, (HB.drew).cv 20 _ rfl⟩
      )
    (first
      | (go_at_call 60; (with_reducible refine (compare_int _ _ _).mono ?_); rintro e w0 ⟨rfl, rfl⟩)
      | (go_at_call 58; (with_reducible refine (HD1.out _).mono ?_); rintro e w2 ⟨rfl, k2⟩; have HA2 := HA.drew.kept k2; have HB2 := HB.drew.kept k2; have B2 := B1.drew.trans (k2.mono B1.drew.size))
      | (go_at_call 58; (with_reducible refine (HD2.out _).mono ?_); rintro e w3 ⟨rfl, k3⟩; have HA3 := HA2.kept k3; have HB3 := HB2.kept k3; have B3 := B2.trans (k3.mono B2.size))
      | (go_at_call 61; (with_reducible refine (HP1.out _).mono ?_); rintro e w4 ⟨rfl, k4⟩; have HA4 := HA3.kept k4; have HB4 := HB3.kept k4; have B4 := B3.trans (k4.mono B3.size))
      | (go_at_call 61; (with_reducible refine (HP2.out _).mono ?_); rintro e w5 ⟨rfl, k5⟩; have HA5 := HA4.kept k5; have HB5 := HB4.kept k5; have B5 := B4.trans (k5.mono B4.size))
      | (go_at_call 59; (with_reducible refine (or_five w5.heap.size 5 z1 (cmpI a.cost b.cost) z2 z3 z4 _ ?_).mono ?_); (exact ints_five _ _ _ _ _ _ _); rintro e w6 ⟨rfl, rfl⟩))
  all_goals (
    go_wp2
    go_ret
    exact ⟨rfl, (B5).alloc (by simpa using B5.size) _⟩)

end Go.Proofs.YtceiiolpggolbaaDoor
