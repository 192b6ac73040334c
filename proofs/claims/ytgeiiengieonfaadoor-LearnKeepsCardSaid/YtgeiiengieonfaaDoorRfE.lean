/- The reference's Learn, where it errs. -/
import Derived.Test.YtgeiiengieonfaaDoorRfL
import Derived.Test.YtgeiiengieonfaaDoorLnE
import Derived.Test.YtgeiiengieonfaaDoorWithin
namespace Go.Proofs.YtgeiiengieonfaaDoor
open Go.RowKit
open Go.Shelf
attribute [local go_sem ↓] Go.wp_at_zero Go.wp_at_succ
set_option linter.unusedSimpArgs false
set_option linter.unusedVariables false
set_option maxRecDepth 100000

theorem rgroup6 (x : Nat → Nat) (hx : ∀ i, x i < 256) (w : World) :
    Calls Tryd.prog 27 #[.agg (c6 x)] w fun e w' => e = .returned (.bool (decide (x 0 % 2 = 1))) ∧ Below w.heap.size w w' := by
  have hB : Below w.heap.size w (w.alloc (.cells (c6 x) 30)) := (Below.refl _ _).alloc (Nat.le_refl _) _
  have h0 := hx 0
  unfold c6 at *
  go_enter Tryd.func27, Tryd.ntmps27
  go_wp2
  go_ret
  refine ⟨?_, hB⟩
  show Ending.returned (Value.bool (((x 0 : Nat) : Int) % 2 == 1)) = _
  congr 2
  rw [Bool.eq_iff_iff]
  simp
  omega

theorem within_any' (n lo hi : Int) (b : Bool) (w : World) (hb : decide (lo ≤ n ∧ n ≤ hi) = b) :
    Calls Tryd.prog 28 #[.int .i64 n, .int .i64 lo, .int .i64 hi] w fun e w' => e = .returned (.bool b) ∧ w = w' := by
  by_cases h : lo ≤ n ∧ n ≤ hi
  · obtain rfl : true = b := by rw [← hb]; exact (decide_eq_true h).symm
    exact within_yes n lo hi w h.1 h.2
  · obtain rfl : false = b := by rw [← hb]; exact (decide_eq_false h).symm
    exact within_no n lo hi w (by omega)

set_option maxHeartbeats 3200000 in
theorem rlearn_err0 (B t : Nat) (age last : Int) (l : List Ent) (vid : Int) (a : Nat → Nat) (port now : Int) (w : World) (h : RTab w B t age last l) (ha : ∀ i, a i < 256) (hg : a 0 % 2 = 1) :
    Calls Tryd.prog 14 #[.pointer (some ⟨t, 0, none⟩), .int .i64 vid, .agg (c6 a), .int .i64 port, .int .i64 now] w fun e w' => e = .returned (.int .i64 1) ∧ Below w.heap.size w w' := by
  have hb0 : Below w.heap.size w (w.alloc (.cells (c6 a) 30)) := (Below.refl _ _).alloc (Nat.le_refl _) _
  have HX := Blk.new w 30 (c6 a)
  have HG := Lib.hid (rgroup6 a ha (w.alloc (.cells (c6 a) 30)))
  obtain ⟨v, hb, hr⟩ := (h.kept hb0).row
  have HB := Lib.hid hb
  have HB0 := Lib.hid hb0
  have dg : decide (a 0 % 2 = 1) = true := decide_eq_true hg
  rw [dg] at HG
  clear h hr hb hb0 dg hg
  unfold c6 at *
  go_enter Tryd.func14, Tryd.ntmps14
  go_upto_region 1 with (fail)
  generalize w.alloc (.cells #[.int .u8 (a 0), .int .u8 (a 1), .int .u8 (a 2), .int .u8 (a 3), .int .u8 (a 4), .int .u8 (a 5)] 30) = W0 at *
  go_wp2_with (first
    | (refine load_blk (k := 0) 30 #[.int .u8 (a 0), .int .u8 (a 1), .int .u8 (a 2), .int .u8 (a 3), .int .u8 (a 4), .int .u8 (a 5)] (by rfl) rfl rfl HX (by kernel_rfl) (by kernel_rfl) (by rfl) ?_)
    | (go_at_call 27; refine HG.out.mono ?_; rintro e w1 ⟨rfl, k1⟩; have HX1 := HX.kept k1; have HB1 := HB.out.kept k1; have c4 := HB1.cv 1 (.int .i64 last) rfl))
  go_ret
  exact ⟨rfl, HB0.out.trans (k1.mono HB0.out.size)⟩

set_option maxHeartbeats 3200000 in
theorem rlearn_err1 (B t : Nat) (age last : Int) (l : List Ent) (vid : Int) (a : Nat → Nat) (port now : Int) (w : World) (h : RTab w B t age last l) (ha : ∀ i, a i < 256) (hg : ¬ a 0 % 2 = 1) (hv : ¬ (1 ≤ vid ∧ vid ≤ 4094)) :
    Calls Tryd.prog 14 #[.pointer (some ⟨t, 0, none⟩), .int .i64 vid, .agg (c6 a), .int .i64 port, .int .i64 now] w fun e w' => e = .returned (.int .i64 1) ∧ Below w.heap.size w w' := by
  have hb0 : Below w.heap.size w (w.alloc (.cells (c6 a) 30)) := (Below.refl _ _).alloc (Nat.le_refl _) _
  have HX := Blk.new w 30 (c6 a)
  have HG := Lib.hid (rgroup6 a ha (w.alloc (.cells (c6 a) 30)))
  obtain ⟨v, hb, hr⟩ := (h.kept hb0).row
  have HB := Lib.hid hb
  have HB0 := Lib.hid hb0
  have dg : decide (a 0 % 2 = 1) = false := decide_eq_false hg
  have HV := Lib.hid (fun w => within_any' vid 1 4094 false w (decide_eq_false hv))
  rw [dg] at HG
  clear h hr hb hb0 dg hg hv
  unfold c6 at *
  go_enter Tryd.func14, Tryd.ntmps14
  go_upto_region 1 with (fail)
  generalize w.alloc (.cells #[.int .u8 (a 0), .int .u8 (a 1), .int .u8 (a 2), .int .u8 (a 3), .int .u8 (a 4), .int .u8 (a 5)] 30) = W0 at *
  go_wp2_with (first
    | (refine load_blk (k := 0) 30 #[.int .u8 (a 0), .int .u8 (a 1), .int .u8 (a 2), .int .u8 (a 3), .int .u8 (a 4), .int .u8 (a 5)] (by rfl) rfl rfl HX (by kernel_rfl) (by kernel_rfl) (by rfl) ?_)
    | (go_at_call 27; refine HG.out.mono ?_; rintro e w1 ⟨rfl, k1⟩; have HX1 := HX.kept k1; have HB1 := HB.out.kept k1; have c4 := HB1.cv 1 (.int .i64 last) rfl)
    | (go_at_call 28; refine (HV.out _).mono ?_; rintro e w' ⟨rfl, rfl⟩; clear HV))
  go_ret
  exact ⟨rfl, HB0.out.trans (k1.mono HB0.out.size)⟩

set_option maxHeartbeats 3200000 in
theorem rlearn_err2 (B t : Nat) (age last : Int) (l : List Ent) (vid : Int) (a : Nat → Nat) (port now : Int) (w : World) (h : RTab w B t age last l) (ha : ∀ i, a i < 256) (hg : ¬ a 0 % 2 = 1) (hv : ¬ (¬ (1 ≤ vid ∧ vid ≤ 4094))) (hp : ¬ (0 ≤ port ∧ port ≤ 7)) :
    Calls Tryd.prog 14 #[.pointer (some ⟨t, 0, none⟩), .int .i64 vid, .agg (c6 a), .int .i64 port, .int .i64 now] w fun e w' => e = .returned (.int .i64 1) ∧ Below w.heap.size w w' := by
  have hb0 : Below w.heap.size w (w.alloc (.cells (c6 a) 30)) := (Below.refl _ _).alloc (Nat.le_refl _) _
  have HX := Blk.new w 30 (c6 a)
  have HG := Lib.hid (rgroup6 a ha (w.alloc (.cells (c6 a) 30)))
  obtain ⟨v, hb, hr⟩ := (h.kept hb0).row
  have HB := Lib.hid hb
  have HB0 := Lib.hid hb0
  have dg : decide (a 0 % 2 = 1) = false := decide_eq_false hg
  have HV := Lib.hid (fun w => within_any' vid 1 4094 true w (decide_eq_true (Decidable.not_not.1 hv)))
  have HP := Lib.hid (fun w => within_any' port 0 7 false w (decide_eq_false hp))
  rw [dg] at HG
  clear h hr hb hb0 dg hg hv hp
  unfold c6 at *
  go_enter Tryd.func14, Tryd.ntmps14
  go_upto_region 1 with (fail)
  generalize w.alloc (.cells #[.int .u8 (a 0), .int .u8 (a 1), .int .u8 (a 2), .int .u8 (a 3), .int .u8 (a 4), .int .u8 (a 5)] 30) = W0 at *
  go_wp2_with (first
    | (refine load_blk (k := 0) 30 #[.int .u8 (a 0), .int .u8 (a 1), .int .u8 (a 2), .int .u8 (a 3), .int .u8 (a 4), .int .u8 (a 5)] (by rfl) rfl rfl HX (by kernel_rfl) (by kernel_rfl) (by rfl) ?_)
    | (go_at_call 27; refine HG.out.mono ?_; rintro e w1 ⟨rfl, k1⟩; have HX1 := HX.kept k1; have HB1 := HB.out.kept k1; have c4 := HB1.cv 1 (.int .i64 last) rfl)
    | (go_at_call 28; refine (HV.out _).mono ?_; rintro e w' ⟨rfl, rfl⟩; clear HV)
    | (go_at_call 28; refine (HP.out _).mono ?_; rintro e w' ⟨rfl, rfl⟩; clear HP))
  go_ret
  exact ⟨rfl, HB0.out.trans (k1.mono HB0.out.size)⟩

set_option maxHeartbeats 3200000 in
theorem rlearn_err3 (B t : Nat) (age last : Int) (l : List Ent) (vid : Int) (a : Nat → Nat) (port now : Int) (w : World) (h : RTab w B t age last l) (ha : ∀ i, a i < 256) (hg : ¬ a 0 % 2 = 1) (hv : ¬ (¬ (1 ≤ vid ∧ vid ≤ 4094))) (hp : ¬ (¬ (0 ≤ port ∧ port ≤ 7))) (hn : ¬ (0 ≤ now ∧ now ≤ 1099511627776)) :
    Calls Tryd.prog 14 #[.pointer (some ⟨t, 0, none⟩), .int .i64 vid, .agg (c6 a), .int .i64 port, .int .i64 now] w fun e w' => e = .returned (.int .i64 2) ∧ Below w.heap.size w w' := by
  have hb0 : Below w.heap.size w (w.alloc (.cells (c6 a) 30)) := (Below.refl _ _).alloc (Nat.le_refl _) _
  have HX := Blk.new w 30 (c6 a)
  have HG := Lib.hid (rgroup6 a ha (w.alloc (.cells (c6 a) 30)))
  obtain ⟨v, hb, hr⟩ := (h.kept hb0).row
  have HB := Lib.hid hb
  have HB0 := Lib.hid hb0
  have dg : decide (a 0 % 2 = 1) = false := decide_eq_false hg
  have HV := Lib.hid (fun w => within_any' vid 1 4094 true w (decide_eq_true (Decidable.not_not.1 hv)))
  have HP := Lib.hid (fun w => within_any' port 0 7 true w (decide_eq_true (Decidable.not_not.1 hp)))
  have HNo := Lib.hid (fun w => within_any' now 0 1099511627776 false w (decide_eq_false hn))
  rw [dg] at HG
  clear h hr hb hb0 dg hg hv hp hn
  unfold c6 at *
  go_enter Tryd.func14, Tryd.ntmps14
  go_upto_region 1 with (fail)
  generalize w.alloc (.cells #[.int .u8 (a 0), .int .u8 (a 1), .int .u8 (a 2), .int .u8 (a 3), .int .u8 (a 4), .int .u8 (a 5)] 30) = W0 at *
  go_wp2_with (first
    | (refine load_blk (k := 0) 30 #[.int .u8 (a 0), .int .u8 (a 1), .int .u8 (a 2), .int .u8 (a 3), .int .u8 (a 4), .int .u8 (a 5)] (by rfl) rfl rfl HX (by kernel_rfl) (by kernel_rfl) (by rfl) ?_)
    | (go_at_call 27; refine HG.out.mono ?_; rintro e w1 ⟨rfl, k1⟩; have HX1 := HX.kept k1; have HB1 := HB.out.kept k1; have c4 := HB1.cv 1 (.int .i64 last) rfl)
    | (go_at_call 28; refine (HV.out _).mono ?_; rintro e w' ⟨rfl, rfl⟩; clear HV)
    | (go_at_call 28; refine (HP.out _).mono ?_; rintro e w' ⟨rfl, rfl⟩; clear HP)
    | (go_at_call 28; refine (HNo.out _).mono ?_; rintro e w' ⟨rfl, rfl⟩; clear HNo))
  go_ret
  exact ⟨rfl, HB0.out.trans (k1.mono HB0.out.size)⟩

set_option maxHeartbeats 3200000 in
theorem rlearn_err4 (B t : Nat) (age last : Int) (l : List Ent) (vid : Int) (a : Nat → Nat) (port now : Int) (w : World) (h : RTab w B t age last l) (ha : ∀ i, a i < 256) (hg : ¬ a 0 % 2 = 1) (hv : ¬ (¬ (1 ≤ vid ∧ vid ≤ 4094))) (hp : ¬ (¬ (0 ≤ port ∧ port ≤ 7))) (hn : ¬ (¬ (0 ≤ now ∧ now ≤ 1099511627776))) (ho : now < last) :
    Calls Tryd.prog 14 #[.pointer (some ⟨t, 0, none⟩), .int .i64 vid, .agg (c6 a), .int .i64 port, .int .i64 now] w fun e w' => e = .returned (.int .i64 10) ∧ Below w.heap.size w w' := by
  have hb0 : Below w.heap.size w (w.alloc (.cells (c6 a) 30)) := (Below.refl _ _).alloc (Nat.le_refl _) _
  have HX := Blk.new w 30 (c6 a)
  have HG := Lib.hid (rgroup6 a ha (w.alloc (.cells (c6 a) 30)))
  obtain ⟨v, hb, hr⟩ := (h.kept hb0).row
  have HB := Lib.hid hb
  have HB0 := Lib.hid hb0
  have dg : decide (a 0 % 2 = 1) = false := decide_eq_false hg
  have HV := Lib.hid (fun w => within_any' vid 1 4094 true w (decide_eq_true (Decidable.not_not.1 hv)))
  have HP := Lib.hid (fun w => within_any' port 0 7 true w (decide_eq_true (Decidable.not_not.1 hp)))
  have HNo := Lib.hid (fun w => within_any' now 0 1099511627776 true w (decide_eq_true (Decidable.not_not.1 hn)))
  have do1 : decide (now < last) = true := decide_eq_true ho
  rw [dg] at HG
  clear h hr hb hb0 dg hg hv hp hn ho
  unfold c6 at *
  go_enter Tryd.func14, Tryd.ntmps14
  go_upto_region 1 with (fail)
  generalize w.alloc (.cells #[.int .u8 (a 0), .int .u8 (a 1), .int .u8 (a 2), .int .u8 (a 3), .int .u8 (a 4), .int .u8 (a 5)] 30) = W0 at *
  go_wp2_with (first
    | (refine load_blk (k := 0) 30 #[.int .u8 (a 0), .int .u8 (a 1), .int .u8 (a 2), .int .u8 (a 3), .int .u8 (a 4), .int .u8 (a 5)] (by rfl) rfl rfl HX (by kernel_rfl) (by kernel_rfl) (by rfl) ?_)
    | (go_at_call 27; refine HG.out.mono ?_; rintro e w1 ⟨rfl, k1⟩; have HX1 := HX.kept k1; have HB1 := HB.out.kept k1; have c4 := HB1.cv 1 (.int .i64 last) rfl)
    | (go_at_call 28; refine (HV.out _).mono ?_; rintro e w' ⟨rfl, rfl⟩; clear HV)
    | (go_at_call 28; refine (HP.out _).mono ?_; rintro e w' ⟨rfl, rfl⟩; clear HP)
    | (go_at_call 28; refine (HNo.out _).mono ?_; rintro e w' ⟨rfl, rfl⟩; clear HNo))
  go_ret
  exact ⟨rfl, HB0.out.trans (k1.mono HB0.out.size)⟩

end Go.Proofs.YtgeiiengieonfaaDoor
