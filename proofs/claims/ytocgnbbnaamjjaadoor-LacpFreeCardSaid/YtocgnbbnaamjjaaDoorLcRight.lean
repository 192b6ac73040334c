/- lacp.isParty, Right, Mark. -/
import Derived.Test.YtocgnbbnaamjjaaDoorLc
import Derived.Test.YtocgnbbnaamjjaaDoorFits
namespace Go.Proofs.YtocgnbbnaamjjaaDoor
open Go.RowKit
attribute [local go_sem ↓] Go.wp_at_zero Go.wp_at_succ
set_option linter.unusedSimpArgs false
set_option linter.unusedVariables false
set_option maxRecDepth 100000

set_option maxHeartbeats 3200000 in
theorem isParty_any (p : Py) (hr : rgPy p) (w : World) :
    Calls Tryd.prog 29 #[.agg (pyC p)] w fun e w' => e = .returned (.bool (okPy p)) ∧ Below w.heap.size w w' := by
  obtain ⟨r0, r1, r2, r3, r4⟩ := hr
  have HA := Blk.new w 25 (pyC p)
  have B0 : Below w.heap.size w (w.alloc (.cells (pyC p) 25)) := (Below.refl _ _).alloc (Nat.le_refl _) _
  have HF1 := Lib.hid (fun (g : Nat) (W : World) (h : IRow W g [p.st]) => fitsI1 1 (by decide) (by decide) p.st r4 g W h)
  have HF4 := Lib.hid (fun (g : Nat) (W : World) (h : IRow W g [p.sp, p.ke, p.pp, p.po]) => fits4 2 (by decide) (by decide) p.sp p.ke p.pp p.po r0 r1 r2 r3 g W h)
  unfold okPy
  generalize (fitI 2 p.sp && (fitI 2 p.ke && (fitI 2 p.pp && fitI 2 p.po))) = x4 at *
  generalize fitI 1 p.st = x1 at *
  clear r0 r1 r2 r3 r4
  have c0 := HA.cv 0 (.int .i64 p.sp) rfl
  have c7 := HA.cv 7 (.int .i64 p.ke) rfl
  have c8 := HA.cv 8 (.int .i64 p.pp) rfl
  have c9 := HA.cv 9 (.int .i64 p.po) rfl
  cases x4 with
  | false =>
    go_enter Tryd.func29, Tryd.ntmps29
    go_upto_region 1 with (fail)
    generalize (w.alloc (.cells (pyC p) 25)) = w1 at *
    go_wp2_with fail
    refine (HF4.out _ _ (IRow.new4 w1 p.sp p.ke p.pp p.po _)).mono ?_
    rintro e w2 ⟨rfl, k2⟩
    have b2 : Below w1.heap.size w1 w2 := ((Below.refl _ _).alloc (Nat.le_refl _) _).trans (k2.mono (by simp))
    have B2 := B0.trans (b2.mono B0.size)
    go_wp2
    go_ret
    exact ⟨rfl, B2⟩
  | true =>
    go_enter Tryd.func29, Tryd.ntmps29
    go_upto_region 1 with (fail)
    generalize (w.alloc (.cells (pyC p) 25)) = w1 at *
    go_wp2_with fail
    refine (HF4.out _ _ (IRow.new4 w1 p.sp p.ke p.pp p.po _)).mono ?_
    rintro e w2 ⟨rfl, k2⟩
    have b2 : Below w1.heap.size w1 w2 := ((Below.refl _ _).alloc (Nat.le_refl _) _).trans (k2.mono (by simp))
    have HA2 := HA.kept b2
    have B2 := B0.trans (b2.mono B0.size)
    have d10 := HA2.cv 10 (.int .i64 p.st) rfl
    clear k2 b2
    go_wp2_with fail
    refine (HF1.out _ _ (IRow.new1 w2 p.st _)).mono ?_
    rintro e w3 ⟨rfl, k3⟩
    have b3 : Below w2.heap.size w2 w3 := ((Below.refl _ _).alloc (Nat.le_refl _) _).trans (k3.mono (by simp))
    have B3 := B2.trans (b3.mono B2.size)
    go_wp2
    go_ret
    exact ⟨rfl, B3⟩

set_option maxHeartbeats 3200000 in
theorem lcRight_any (l : Lc) (hr : rgLc l) (w : World) :
    Calls Tryd.prog 12 #[.agg (lcC l)] w fun e w' => e = .returned (.bool (okLc l)) ∧ Below w.heap.size w w' := by
  obtain ⟨r0, r1, r2⟩ := hr
  have HA := Blk.new w 27 (lcC l)
  have B0 : Below w.heap.size w (w.alloc (.cells (lcC l) 27)) := (Below.refl _ _).alloc (Nat.le_refl _) _
  have HP1 := Lib.hid (fun W => isParty_any l.a r0 W)
  have HP2 := Lib.hid (fun W => isParty_any l.p r1 W)
  have HF1 := Lib.hid (fun (g : Nat) (W : World) (h : IRow W g [l.de]) => fitsI1 2 (by decide) (by decide) l.de r2 g W h)
  unfold okLc
  generalize okPy l.a = x0 at *
  generalize okPy l.p = x1 at *
  generalize fitI 2 l.de = x2 at *
  clear r0 r1 r2
  cases x0 with
  | false =>
    go_enter Tryd.func12, Tryd.ntmps12
    go_upto_region 1 with (fail)
    generalize (w.alloc (.cells (lcC l) 27)) = w1 at *
    go_wp2_with (refine load_blk (k := 0) 25 (pyC l.a) (by rfl) rfl rfl HA (by kernel_rfl) (by kernel_rfl) rfl ?_)
    refine (HP1.out _).mono ?_
    rintro e w2 ⟨rfl, k2⟩
    have HA2 := HA.kept k2
    have B2 := B0.trans (k2.mono B0.size)
    go_wp2
    go_ret
    exact ⟨rfl, B2⟩
  | true =>
    cases x1 with
    | false =>
      go_enter Tryd.func12, Tryd.ntmps12
      go_upto_region 1 with (fail)
      generalize (w.alloc (.cells (lcC l) 27)) = w1 at *
      go_wp2_with (refine load_blk (k := 0) 25 (pyC l.a) (by rfl) rfl rfl HA (by kernel_rfl) (by kernel_rfl) rfl ?_)
      refine (HP1.out _).mono ?_
      rintro e w2 ⟨rfl, k2⟩
      have HA2 := HA.kept k2
      have B2 := B0.trans (k2.mono B0.size)
      go_wp2_with (refine load_blk (k := 11) 25 (pyC l.p) (by rfl) rfl rfl HA2 (by kernel_rfl) (by kernel_rfl) rfl ?_)
      refine (HP2.out _).mono ?_
      rintro e w3 ⟨rfl, k3⟩
      have HA3 := HA2.kept k3
      have B3 := B2.trans (k3.mono B2.size)
      go_wp2
      go_ret
      exact ⟨rfl, B3⟩
    | true =>
      go_enter Tryd.func12, Tryd.ntmps12
      go_upto_region 1 with (fail)
      generalize (w.alloc (.cells (lcC l) 27)) = w1 at *
      go_wp2_with (refine load_blk (k := 0) 25 (pyC l.a) (by rfl) rfl rfl HA (by kernel_rfl) (by kernel_rfl) rfl ?_)
      refine (HP1.out _).mono ?_
      rintro e w2 ⟨rfl, k2⟩
      have HA2 := HA.kept k2
      have B2 := B0.trans (k2.mono B0.size)
      go_wp2_with (refine load_blk (k := 11) 25 (pyC l.p) (by rfl) rfl rfl HA2 (by kernel_rfl) (by kernel_rfl) rfl ?_)
      refine (HP2.out _).mono ?_
      rintro e w3 ⟨rfl, k3⟩
      have HA3 := HA2.kept k3
      have B3 := B2.trans (k3.mono B2.size)
      have c22 := HA3.cv 22 (.int .i64 l.de) rfl
      go_wp2_with fail
      refine (HF1.out _ _ (IRow.new1 w3 l.de _)).mono ?_
      rintro e w4 ⟨rfl, k4⟩
      have b4 : Below w3.heap.size w3 w4 := ((Below.refl _ _).alloc (Nat.le_refl _) _).trans (k4.mono (by simp))
      have B4 := B3.trans (b4.mono B3.size)
      go_wp2
      go_ret
      exact ⟨rfl, B4⟩

set_option maxHeartbeats 3200000 in
theorem mkRight_any (m : Mk) (hr : rgMk m) (w : World) :
    Calls Tryd.prog 17 #[.agg (mkC m)] w fun e w' => e = .returned (.bool (okMk m)) ∧ Below w.heap.size w w' := by
  obtain ⟨r0, r1⟩ := hr
  have HA := Blk.new w 38 (mkC m)
  have B0 : Below w.heap.size w (w.alloc (.cells (mkC m) 38)) := (Below.refl _ _).alloc (Nat.le_refl _) _
  have HF2 := Lib.hid (fun (g : Nat) (W : World) (h : IRow W g [m.po]) => fitsI1 2 (by decide) (by decide) m.po r0 g W h)
  have HF4 := Lib.hid (fun (g : Nat) (W : World) (h : IRow W g [m.tx]) => fitsI1 4 (by decide) (by decide) m.tx r1 g W h)
  have c1 := HA.cv 1 (.int .i64 m.po) rfl
  unfold okMk
  generalize fitI 2 m.po = x0 at *
  generalize fitI 4 m.tx = x1 at *
  clear r0 r1
  cases x0 with
  | false =>
    go_enter Tryd.func17, Tryd.ntmps17
    go_upto_region 1 with (fail)
    generalize (w.alloc (.cells (mkC m) 38)) = w1 at *
    go_wp2_with fail
    refine (HF2.out _ _ (IRow.new1 w1 m.po _)).mono ?_
    rintro e w2 ⟨rfl, k2⟩
    have b2 : Below w1.heap.size w1 w2 := ((Below.refl _ _).alloc (Nat.le_refl _) _).trans (k2.mono (by simp))
    have HA2 := HA.kept b2
    have B2 := B0.trans (b2.mono B0.size)
    have d8 := HA2.cv 8 (.int .i64 m.tx) rfl
    go_wp2
    go_ret
    exact ⟨rfl, B2⟩
  | true =>
    go_enter Tryd.func17, Tryd.ntmps17
    go_upto_region 1 with (fail)
    generalize (w.alloc (.cells (mkC m) 38)) = w1 at *
    go_wp2_with fail
    refine (HF2.out _ _ (IRow.new1 w1 m.po _)).mono ?_
    rintro e w2 ⟨rfl, k2⟩
    have b2 : Below w1.heap.size w1 w2 := ((Below.refl _ _).alloc (Nat.le_refl _) _).trans (k2.mono (by simp))
    have HA2 := HA.kept b2
    have B2 := B0.trans (b2.mono B0.size)
    have d8 := HA2.cv 8 (.int .i64 m.tx) rfl
    clear k2 b2
    go_wp2_with fail
    refine (HF4.out _ _ (IRow.new1 w2 m.tx _)).mono ?_
    rintro e w3 ⟨rfl, k3⟩
    have b3 : Below w2.heap.size w2 w3 := ((Below.refl _ _).alloc (Nat.le_refl _) _).trans (k3.mono (by simp))
    have B3 := B2.trans (b3.mono B2.size)
    go_wp2
    go_ret
    exact ⟨rfl, B3⟩

end Go.Proofs.YtocgnbbnaamjjaaDoor
