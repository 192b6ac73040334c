/- bpdu.hasBody. -/
import Derived.Test.YtjoepmfineinfaaDoorBpFlag
import Derived.Test.YtjoepmfineinfaaDoorPrRight
namespace Go.Proofs.YtjoepmfineinfaaDoor
open Go.RowKit
attribute [local go_sem ↓] Go.wp_at_zero Go.wp_at_succ
set_option linter.unusedSimpArgs false
set_option linter.unusedVariables false
set_option maxRecDepth 100000

set_option maxHeartbeats 3200000 in
theorem hasBody_any (b : Bp) (hr : rgBp b) (w : World) :
    Calls Tryd.prog 56 #[.agg (bpC b)] w fun e w' => e = .returned (.bool (okBd b)) ∧ Below w.heap.size w w' := by
  obtain ⟨r0, r1, r2, r3, r4⟩ := hr
  have HA := Blk.new w 52 (bpC b)
  have B0 : Below w.heap.size w (w.alloc (.cells (bpC b) 52)) := (Below.refl _ _).alloc (Nat.le_refl _) _
  have HR := Lib.hid (fun W => right_any b.root W)
  have HS := Lib.hid (fun W => right_any b.snd W)
  have HP := Lib.hid (fun W => port_any b.pp b.pn W)
  have HF1 := Lib.hid (fun (g : Nat) (W : World) (h : IRow W g [b.cost]) => fitsI1 4 (by decide) (by decide) b.cost r0 g W h)
  have HF4 := Lib.hid (fun (g : Nat) (W : World) (h : IRow W g [b.age, b.mx, b.hel, b.wai]) => fits4 2 (by decide) (by decide) b.age b.mx b.hel b.wai r1 r2 r3 r4 g W h)
  unfold okBd okTm
  generalize (fitI 2 b.age && (fitI 2 b.mx && (fitI 2 b.hel && fitI 2 b.wai))) = x4 at *
  generalize fitI 4 b.cost = x3 at *
  generalize okPt b.pp b.pn = x2 at *
  generalize okB b.snd = x1 at *
  generalize okB b.root = x0 at *
  clear r0 r1 r2 r3 r4
  cases x0 with
  | false =>
    simp only [Bool.true_and, Bool.false_and]
    go_enter Tryd.func56, Tryd.ntmps56
    go_upto_region 1 with (fail)
    generalize (w.alloc (.cells (bpC b) 52)) = w1 at *
    go_wp2_with (refine load_blk (k := 8) 48 (brC b.root) (by rfl) rfl rfl HA (by kernel_rfl) (by kernel_rfl) rfl ?_)
    refine (HR.out _).mono ?_
    rintro e w2 ⟨rfl, k2⟩
    have HA2 := HA.kept k2
    have B2 := B0.trans (k2.mono B0.size)
    go_wp2
    go_ret
    exact ⟨rfl, B2⟩
  | true =>
    cases x1 with
    | false =>
      simp only [Bool.true_and, Bool.false_and]
      go_enter Tryd.func56, Tryd.ntmps56
      go_upto_region 1 with (fail)
      generalize (w.alloc (.cells (bpC b) 52)) = w1 at *
      go_wp2_with (refine load_blk (k := 8) 48 (brC b.root) (by rfl) rfl rfl HA (by kernel_rfl) (by kernel_rfl) rfl ?_)
      refine (HR.out _).mono ?_
      rintro e w2 ⟨rfl, k2⟩
      have HA2 := HA.kept k2
      have B2 := B0.trans (k2.mono B0.size)
      go_wp2_with (refine load_blk (k := 17) 48 (brC b.snd) (by rfl) rfl rfl HA2 (by kernel_rfl) (by kernel_rfl) rfl ?_)
      refine (HS.out _).mono ?_
      rintro e w3 ⟨rfl, k3⟩
      have HA3 := HA2.kept k3
      have B3 := B2.trans (k3.mono B2.size)
      go_wp2
      go_ret
      exact ⟨rfl, B3⟩
    | true =>
      cases x2 with
      | false =>
        simp only [Bool.true_and, Bool.false_and]
        go_enter Tryd.func56, Tryd.ntmps56
        go_upto_region 1 with (fail)
        generalize (w.alloc (.cells (bpC b) 52)) = w1 at *
        go_wp2_with (refine load_blk (k := 8) 48 (brC b.root) (by rfl) rfl rfl HA (by kernel_rfl) (by kernel_rfl) rfl ?_)
        refine (HR.out _).mono ?_
        rintro e w2 ⟨rfl, k2⟩
        have HA2 := HA.kept k2
        have B2 := B0.trans (k2.mono B0.size)
        go_wp2_with (refine load_blk (k := 17) 48 (brC b.snd) (by rfl) rfl rfl HA2 (by kernel_rfl) (by kernel_rfl) rfl ?_)
        refine (HS.out _).mono ?_
        rintro e w3 ⟨rfl, k3⟩
        have HA3 := HA2.kept k3
        have B3 := B2.trans (k3.mono B2.size)
        go_wp2_with (refine load_blk (k := 25) 50 (ptC b.pp b.pn) (by rfl) rfl rfl HA3 (by kernel_rfl) (by kernel_rfl) rfl ?_)
        refine (HP.out _).mono ?_
        rintro e w4 ⟨rfl, k4⟩
        have HA4 := HA3.kept k4
        have B4 := B3.trans (k4.mono B3.size)
        go_wp2
        go_ret
        exact ⟨rfl, B4⟩
      | true =>
        cases x3 with
        | false =>
          simp only [Bool.true_and, Bool.false_and]
          go_enter Tryd.func56, Tryd.ntmps56
          go_upto_region 1 with (fail)
          generalize (w.alloc (.cells (bpC b) 52)) = w1 at *
          go_wp2_with (refine load_blk (k := 8) 48 (brC b.root) (by rfl) rfl rfl HA (by kernel_rfl) (by kernel_rfl) rfl ?_)
          refine (HR.out _).mono ?_
          rintro e w2 ⟨rfl, k2⟩
          have HA2 := HA.kept k2
          have B2 := B0.trans (k2.mono B0.size)
          go_wp2_with (refine load_blk (k := 17) 48 (brC b.snd) (by rfl) rfl rfl HA2 (by kernel_rfl) (by kernel_rfl) rfl ?_)
          refine (HS.out _).mono ?_
          rintro e w3 ⟨rfl, k3⟩
          have HA3 := HA2.kept k3
          have B3 := B2.trans (k3.mono B2.size)
          go_wp2_with (refine load_blk (k := 25) 50 (ptC b.pp b.pn) (by rfl) rfl rfl HA3 (by kernel_rfl) (by kernel_rfl) rfl ?_)
          refine (HP.out _).mono ?_
          rintro e w4 ⟨rfl, k4⟩
          have HA4 := HA3.kept k4
          have B4 := B3.trans (k4.mono B3.size)
          have c16 := HA4.cv 16 (.int .i64 b.cost) rfl
          go_wp2_with fail
          refine (HF1.out _ _ (IRow.new1 w4 b.cost _)).mono ?_
          rintro e w5 ⟨rfl, k5⟩
          have b5 : Below w4.heap.size w4 w5 := ((Below.refl _ _).alloc (Nat.le_refl _) _).trans (k5.mono (by simp))
          have HA5 := HA4.kept b5
          have B5 := B4.trans (b5.mono B4.size)
          go_wp2
          go_ret
          exact ⟨rfl, B5⟩
        | true =>
          simp only [Bool.true_and]
          go_enter Tryd.func56, Tryd.ntmps56
          go_upto_region 1 with (fail)
          generalize (w.alloc (.cells (bpC b) 52)) = w1 at *
          go_wp2_with (refine load_blk (k := 8) 48 (brC b.root) (by rfl) rfl rfl HA (by kernel_rfl) (by kernel_rfl) rfl ?_)
          refine (HR.out _).mono ?_
          rintro e w2 ⟨rfl, k2⟩
          have HA2 := HA.kept k2
          have B2 := B0.trans (k2.mono B0.size)
          go_wp2_with (refine load_blk (k := 17) 48 (brC b.snd) (by rfl) rfl rfl HA2 (by kernel_rfl) (by kernel_rfl) rfl ?_)
          refine (HS.out _).mono ?_
          rintro e w3 ⟨rfl, k3⟩
          have HA3 := HA2.kept k3
          have B3 := B2.trans (k3.mono B2.size)
          go_wp2_with (refine load_blk (k := 25) 50 (ptC b.pp b.pn) (by rfl) rfl rfl HA3 (by kernel_rfl) (by kernel_rfl) rfl ?_)
          refine (HP.out _).mono ?_
          rintro e w4 ⟨rfl, k4⟩
          have HA4 := HA3.kept k4
          have B4 := B3.trans (k4.mono B3.size)
          have c16 := HA4.cv 16 (.int .i64 b.cost) rfl
          go_wp2_with fail
          refine (HF1.out _ _ (IRow.new1 w4 b.cost _)).mono ?_
          rintro e w5 ⟨rfl, k5⟩
          have b5 : Below w4.heap.size w4 w5 := ((Below.refl _ _).alloc (Nat.le_refl _) _).trans (k5.mono (by simp))
          have HA5 := HA4.kept b5
          have B5 := B4.trans (b5.mono B4.size)
          have c27 := HA5.cv 27 (.int .i64 b.age) rfl
          have c28 := HA5.cv 28 (.int .i64 b.mx) rfl
          have c29 := HA5.cv 29 (.int .i64 b.hel) rfl
          have c30 := HA5.cv 30 (.int .i64 b.wai) rfl
          go_wp2_with fail
          refine (HF4.out _ _ (IRow.new4 w5 b.age b.mx b.hel b.wai _)).mono ?_
          rintro e w6 ⟨rfl, k6⟩
          have b6 : Below w5.heap.size w5 w6 := ((Below.refl _ _).alloc (Nat.le_refl _) _).trans (k6.mono (by simp))
          have HA6 := HA5.kept b6
          have B6 := B5.trans (b6.mono B5.size)
          go_wp2
          go_ret
          exact ⟨rfl, B6⟩

end Go.Proofs.YtjoepmfineinfaaDoor
