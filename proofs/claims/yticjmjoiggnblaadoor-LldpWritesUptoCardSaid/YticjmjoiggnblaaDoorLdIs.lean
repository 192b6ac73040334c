/- lldp.Right, part by part. -/
import Derived.Test.YticjmjoiggnblaaDoorLdS
namespace Go.Proofs.YticjmjoiggnblaaDoor
open Go.RowKit
attribute [local go_sem ↓] Go.wp_at_zero Go.wp_at_succ
set_option linter.unusedSimpArgs false
set_option linter.unusedVariables false
set_option maxRecDepth 100000

theorem withinL_any (x a b : Int) (w : World) : Calls Tryd.prog 92 #[.int .i64 x, .int .i64 a, .int .i64 b] w fun e w' => e = .returned (.bool (wthn x a b)) ∧ Below w.heap.size w w' := by
  unfold wthn
  by_cases h1 : a ≤ x
  · have d1 : decide (a ≤ x) = true := decide_eq_true h1
    obtain ⟨d2, hd⟩ : ∃ d2, decide (x ≤ b) = d2 := ⟨_, rfl⟩
    rw [d1, Bool.true_and]
    go_enter Tryd.func92, Tryd.ntmps92
    go_wp2
    go_ret
    exact ⟨by rw [hd]; rfl, Below.refl _ _⟩
  · have d1 : decide (a ≤ x) = false := decide_eq_false h1
    rw [d1, Bool.false_and]
    go_enter Tryd.func92, Tryd.ntmps92
    go_wp2
    go_ret
    exact ⟨rfl, Below.refl _ _⟩
theorem isText_any (x : ByteArray) (w : World) : Calls Tryd.prog 64 #[.string x] w fun e w' => e = .returned (.bool (okSt x)) ∧ Below w.heap.size w w' := by
  unfold okSt
  go_enter Tryd.func64, Tryd.ntmps64
  go_wp2
  go_ret
  exact ⟨rfl, Below.refl _ _⟩
theorem IRow.new2 (w : World) (a b : Int) (T : TypeId) : IRow (w.alloc (.cells #[.int .i64 a, .int .i64 b] T)) w.heap.size [a, b] :=
  IRow.new w _ T _ fun j v hv => by match j, hv with | 0, hv | 1, hv => cases hv; rfl
theorem fitsL2 (n : Nat) (hn1 : 1 ≤ n) (hn7 : n ≤ 7) (a b : Int) (ha : i64R a) (hb : i64R b) (g : Nat) (w : World) (h : IRow w g [a, b]) :
    Calls Tryd.prog 62 #[.int .i64 n, .slice (some ⟨g, 0, none⟩) 2 2] w fun e w' => e = .returned (.bool ([a, b].all (fitI n))) ∧ Below w.heap.size w w' :=
  fits_any n hn1 hn7 [a, b] (by simp) (fun v hv => by
    rcases List.mem_cons.1 hv with rfl | hv
    · exact ha
    · rcases List.mem_cons.1 hv with rfl | hv
      · exact hb
      · cases hv) g w h

theorem isName_any (x : Nm) (w : World) : Calls Tryd.prog 61 #[.agg (nmC x)] w fun e w' => e = .returned (.bool (okNm x)) ∧ Below w.heap.size w w' := by
  have HA0 := Blk.new w 48 (nmC x)
  have B0 : Below w.heap.size w (w.alloc (.cells (nmC x) 48)) := (Below.refl _ _).alloc (Nat.le_refl _) _
  have H1 := Lib.hid (fun W => withinL_any x.su 1 7 W)
  have H2 := Lib.hid (fun W => withinL_any x.id.size 1 255 W)
  unfold okNm
  generalize wthn x.id.size 1 255 = x2 at *
  generalize wthn x.su 1 7 = x1 at *
  cases x1 with
  | false =>
    simp only [Bool.true_and, Bool.false_and]
    go_enter Tryd.func61, Tryd.ntmps61
    go_upto_region 1 with (fail)
    generalize hw0 : (w.alloc (.cells (nmC x) 48)) = w0 at *
    clear hw0
    have c0_0 := HA0.cv 0 (.int .i64 x.su) rfl
    go_wp2_with fail
    refine (H1.out _).mono ?_
    rintro e w1 ⟨rfl, k1⟩
    have HA1 := HA0.kept k1
    have B1 := B0.trans (k1.mono B0.size)
    go_wp2
    go_ret
    exact ⟨rfl, B1⟩
  | true =>
    simp only [Bool.true_and]
    go_enter Tryd.func61, Tryd.ntmps61
    go_upto_region 1 with (fail)
    generalize hw0 : (w.alloc (.cells (nmC x) 48)) = w0 at *
    clear hw0
    have c0_0 := HA0.cv 0 (.int .i64 x.su) rfl
    go_wp2_with fail
    refine (H1.out _).mono ?_
    rintro e w1 ⟨rfl, k1⟩
    have HA1 := HA0.kept k1
    have B1 := B0.trans (k1.mono B0.size)
    have c1_1 := HA1.cv 1 (.string x.id) rfl
    go_wp2_with fail
    refine (H2.out _).mono ?_
    rintro e w2 ⟨rfl, k2⟩
    have HA2 := HA1.kept k2
    have B2 := B1.trans (k2.mono B1.size)
    go_wp2
    go_ret
    exact ⟨rfl, B2⟩

theorem isCaps_any (x : Cp) (hr : rgCp x) (w : World) : Calls Tryd.prog 66 #[.agg (cpC x)] w fun e w' => e = .returned (.bool (okCp x)) ∧ Below w.heap.size w w' := by
  have HA0 := Blk.new w 110 (cpC x)
  have B0 : Below w.heap.size w (w.alloc (.cells (cpC x) 110)) := (Below.refl _ _).alloc (Nat.le_refl _) _
  have H1 := Lib.hid (fun (g : Nat) (W : World) (h : IRow W g [x.h, x.o]) => fitsL2 2 (by decide) (by decide) x.h x.o hr.1 hr.2 g W h)
  unfold okCp
  generalize ([x.h, x.o].all (fitI 2)) = x1 at *
  obtain ⟨x2, hx2⟩ : ∃ x2, (bits .andNot .i64 x.o x.h == 0) = x2 := ⟨_, rfl⟩
  rw [hx2]
  clear hr
  cases x1 with
  | false =>
    simp only [Bool.true_and, Bool.false_and]
    go_enter Tryd.func66, Tryd.ntmps66
    go_upto_region 1 with (fail)
    generalize hw0 : (w.alloc (.cells (cpC x) 110)) = w0 at *
    clear hw0
    have c0_0 := HA0.cv 0 (.int .i64 x.h) rfl
    have c1_0 := HA0.cv 1 (.int .i64 x.o) rfl
    go_wp2_with fail
    refine (H1.out _ _ (IRow.new2 w0 x.h x.o _)).mono ?_
    rintro e w1 ⟨rfl, k1⟩
    replace k1 : Below w0.heap.size w0 w1 := ((Below.refl _ _).alloc (Nat.le_refl _) _).trans (k1.mono (by simp))
    have HA1 := HA0.kept k1
    have B1 := B0.trans (k1.mono B0.size)
    go_wp2
    go_ret
    exact ⟨rfl, B1⟩
  | true =>
    simp only [Bool.true_and]
    go_enter Tryd.func66, Tryd.ntmps66
    go_upto_region 1 with (fail)
    generalize hw0 : (w.alloc (.cells (cpC x) 110)) = w0 at *
    clear hw0
    have c0_0 := HA0.cv 0 (.int .i64 x.h) rfl
    have c1_0 := HA0.cv 1 (.int .i64 x.o) rfl
    go_wp2_with fail
    refine (H1.out _ _ (IRow.new2 w0 x.h x.o _)).mono ?_
    rintro e w1 ⟨rfl, k1⟩
    replace k1 : Below w0.heap.size w0 w1 := ((Below.refl _ _).alloc (Nat.le_refl _) _).trans (k1.mono (by simp))
    have HA1 := HA0.kept k1
    have B1 := B0.trans (k1.mono B0.size)
    have c0_1 := HA1.cv 0 (.int .i64 x.h) rfl
    have c1_1 := HA1.cv 1 (.int .i64 x.o) rfl
    go_wp2
    go_ret
    exact ⟨rfl, B1⟩

set_option maxHeartbeats 1600000 in
theorem isManage_any (x : Mg) (hr : rgMg x) (w : World) : Calls Tryd.prog 68 #[.agg (mgC x)] w fun e w' => e = .returned (.bool (okMg x)) ∧ Below w.heap.size w w' := by
  have HA0 := Blk.new w 114 (mgC x)
  have B0 : Below w.heap.size w (w.alloc (.cells (mgC x) 114)) := (Below.refl _ _).alloc (Nat.le_refl _) _
  have H1 := Lib.hid (fun (g : Nat) (W : World) (h : IRow W g [x.as]) => fitsI1 1 (by decide) (by decide) x.as hr.1 g W h)
  have H2 := Lib.hid (fun W => withinL_any x.ai.size 1 31 W)
  have H3 := Lib.hid (fun W => withinL_any x.fs 1 3 W)
  have H4 := Lib.hid (fun (g : Nat) (W : World) (h : IRow W g [x.fi]) => fitsI1 4 (by decide) (by decide) x.fi hr.2.2.1 g W h)
  unfold okMg
  obtain ⟨x5, hx5⟩ : ∃ x5, decide ((x.oid.size : Int) ≤ 128) = x5 := ⟨_, rfl⟩
  rw [hx5]
  generalize fitI 4 x.fi = x4 at *
  generalize wthn x.fs 1 3 = x3 at *
  generalize wthn x.ai.size 1 31 = x2 at *
  generalize fitI 1 x.as = x1 at *
  clear hr
  cases x1 with
  | false =>
    simp only [Bool.true_and, Bool.false_and]
    go_enter Tryd.func68, Tryd.ntmps68
    go_upto_region 1 with (fail)
    generalize hw0 : (w.alloc (.cells (mgC x) 114)) = w0 at *
    clear hw0
    have c0_0 := HA0.cv 0 (.int .i64 x.as) rfl
    go_wp2_with fail
    refine (H1.out _ _ (IRow.new1 w0 x.as _)).mono ?_
    rintro e w1 ⟨rfl, k1⟩
    replace k1 : Below w0.heap.size w0 w1 := ((Below.refl _ _).alloc (Nat.le_refl _) _).trans (k1.mono (by simp))
    have HA1 := HA0.kept k1
    have B1 := B0.trans (k1.mono B0.size)
    go_wp2
    go_ret
    exact ⟨rfl, B1⟩
  | true =>
    cases x2 with
    | false =>
      simp only [Bool.true_and, Bool.false_and]
      go_enter Tryd.func68, Tryd.ntmps68
      go_upto_region 1 with (fail)
      generalize hw0 : (w.alloc (.cells (mgC x) 114)) = w0 at *
      clear hw0
      have c0_0 := HA0.cv 0 (.int .i64 x.as) rfl
      go_wp2_with fail
      refine (H1.out _ _ (IRow.new1 w0 x.as _)).mono ?_
      rintro e w1 ⟨rfl, k1⟩
      replace k1 : Below w0.heap.size w0 w1 := ((Below.refl _ _).alloc (Nat.le_refl _) _).trans (k1.mono (by simp))
      have HA1 := HA0.kept k1
      have B1 := B0.trans (k1.mono B0.size)
      have c1_1 := HA1.cv 1 (.string x.ai) rfl
      go_wp2_with fail
      refine (H2.out _).mono ?_
      rintro e w2 ⟨rfl, k2⟩
      have HA2 := HA1.kept k2
      have B2 := B1.trans (k2.mono B1.size)
      go_wp2
      go_ret
      exact ⟨rfl, B2⟩
    | true =>
      cases x3 with
      | false =>
        simp only [Bool.true_and, Bool.false_and]
        go_enter Tryd.func68, Tryd.ntmps68
        go_upto_region 1 with (fail)
        generalize hw0 : (w.alloc (.cells (mgC x) 114)) = w0 at *
        clear hw0
        have c0_0 := HA0.cv 0 (.int .i64 x.as) rfl
        go_wp2_with fail
        refine (H1.out _ _ (IRow.new1 w0 x.as _)).mono ?_
        rintro e w1 ⟨rfl, k1⟩
        replace k1 : Below w0.heap.size w0 w1 := ((Below.refl _ _).alloc (Nat.le_refl _) _).trans (k1.mono (by simp))
        have HA1 := HA0.kept k1
        have B1 := B0.trans (k1.mono B0.size)
        have c1_1 := HA1.cv 1 (.string x.ai) rfl
        go_wp2_with fail
        refine (H2.out _).mono ?_
        rintro e w2 ⟨rfl, k2⟩
        have HA2 := HA1.kept k2
        have B2 := B1.trans (k2.mono B1.size)
        have c2_2 := HA2.cv 2 (.int .i64 x.fs) rfl
        go_wp2_with fail
        refine (H3.out _).mono ?_
        rintro e w3 ⟨rfl, k3⟩
        have HA3 := HA2.kept k3
        have B3 := B2.trans (k3.mono B2.size)
        go_wp2
        go_ret
        exact ⟨rfl, B3⟩
      | true =>
        cases x4 with
        | false =>
          simp only [Bool.true_and, Bool.false_and]
          go_enter Tryd.func68, Tryd.ntmps68
          go_upto_region 1 with (fail)
          generalize hw0 : (w.alloc (.cells (mgC x) 114)) = w0 at *
          clear hw0
          have c0_0 := HA0.cv 0 (.int .i64 x.as) rfl
          go_wp2_with fail
          refine (H1.out _ _ (IRow.new1 w0 x.as _)).mono ?_
          rintro e w1 ⟨rfl, k1⟩
          replace k1 : Below w0.heap.size w0 w1 := ((Below.refl _ _).alloc (Nat.le_refl _) _).trans (k1.mono (by simp))
          have HA1 := HA0.kept k1
          have B1 := B0.trans (k1.mono B0.size)
          have c1_1 := HA1.cv 1 (.string x.ai) rfl
          go_wp2_with fail
          refine (H2.out _).mono ?_
          rintro e w2 ⟨rfl, k2⟩
          have HA2 := HA1.kept k2
          have B2 := B1.trans (k2.mono B1.size)
          have c2_2 := HA2.cv 2 (.int .i64 x.fs) rfl
          go_wp2_with fail
          refine (H3.out _).mono ?_
          rintro e w3 ⟨rfl, k3⟩
          have HA3 := HA2.kept k3
          have B3 := B2.trans (k3.mono B2.size)
          have c3_3 := HA3.cv 3 (.int .i64 x.fi) rfl
          go_wp2_with fail
          refine (H4.out _ _ (IRow.new1 w3 x.fi _)).mono ?_
          rintro e w4 ⟨rfl, k4⟩
          replace k4 : Below w3.heap.size w3 w4 := ((Below.refl _ _).alloc (Nat.le_refl _) _).trans (k4.mono (by simp))
          have HA4 := HA3.kept k4
          have B4 := B3.trans (k4.mono B3.size)
          go_wp2
          go_ret
          exact ⟨rfl, B4⟩
        | true =>
          simp only [Bool.true_and]
          go_enter Tryd.func68, Tryd.ntmps68
          go_upto_region 1 with (fail)
          generalize hw0 : (w.alloc (.cells (mgC x) 114)) = w0 at *
          clear hw0
          have c0_0 := HA0.cv 0 (.int .i64 x.as) rfl
          go_wp2_with fail
          refine (H1.out _ _ (IRow.new1 w0 x.as _)).mono ?_
          rintro e w1 ⟨rfl, k1⟩
          replace k1 : Below w0.heap.size w0 w1 := ((Below.refl _ _).alloc (Nat.le_refl _) _).trans (k1.mono (by simp))
          have HA1 := HA0.kept k1
          have B1 := B0.trans (k1.mono B0.size)
          have c1_1 := HA1.cv 1 (.string x.ai) rfl
          go_wp2_with fail
          refine (H2.out _).mono ?_
          rintro e w2 ⟨rfl, k2⟩
          have HA2 := HA1.kept k2
          have B2 := B1.trans (k2.mono B1.size)
          have c2_2 := HA2.cv 2 (.int .i64 x.fs) rfl
          go_wp2_with fail
          refine (H3.out _).mono ?_
          rintro e w3 ⟨rfl, k3⟩
          have HA3 := HA2.kept k3
          have B3 := B2.trans (k3.mono B2.size)
          have c3_3 := HA3.cv 3 (.int .i64 x.fi) rfl
          go_wp2_with fail
          refine (H4.out _ _ (IRow.new1 w3 x.fi _)).mono ?_
          rintro e w4 ⟨rfl, k4⟩
          replace k4 : Below w3.heap.size w3 w4 := ((Below.refl _ _).alloc (Nat.le_refl _) _).trans (k4.mono (by simp))
          have HA4 := HA3.kept k4
          have B4 := B3.trans (k4.mono B3.size)
          have c4_4 := HA4.cv 4 (.string x.oid) rfl
          go_wp2
          go_ret
          exact ⟨rfl, B4⟩

set_option maxHeartbeats 1600000 in
theorem isOrg_any (x : Og) (hr : rgOg x) (w : World) : Calls Tryd.prog 70 #[.agg (ogC x)] w fun e w' => e = .returned (.bool (okOg x)) ∧ Below w.heap.size w w' := by
  have HA0 := Blk.new w 61 (ogC x)
  have B0 : Below w.heap.size w (w.alloc (.cells (ogC x) 61)) := (Below.refl _ _).alloc (Nat.le_refl _) _
  have H1 := Lib.hid (fun (g : Nat) (W : World) (h : IRow W g [x.ou]) => fitsI1 3 (by decide) (by decide) x.ou hr.1 g W h)
  have H2 := Lib.hid (fun (g : Nat) (W : World) (h : IRow W g [x.su]) => fitsI1 1 (by decide) (by decide) x.su hr.2.1 g W h)
  unfold okOg
  obtain ⟨x3, hx3⟩ : ∃ x3, decide ((x.nf.size : Int) ≤ 507) = x3 := ⟨_, rfl⟩
  rw [hx3]
  generalize fitI 1 x.su = x2 at *
  generalize fitI 3 x.ou = x1 at *
  clear hr
  cases x1 with
  | false =>
    simp only [Bool.true_and, Bool.false_and]
    go_enter Tryd.func70, Tryd.ntmps70
    go_upto_region 1 with (fail)
    generalize hw0 : (w.alloc (.cells (ogC x) 61)) = w0 at *
    clear hw0
    have c0_0 := HA0.cv 0 (.int .i64 x.ou) rfl
    go_wp2_with fail
    refine (H1.out _ _ (IRow.new1 w0 x.ou _)).mono ?_
    rintro e w1 ⟨rfl, k1⟩
    replace k1 : Below w0.heap.size w0 w1 := ((Below.refl _ _).alloc (Nat.le_refl _) _).trans (k1.mono (by simp))
    have HA1 := HA0.kept k1
    have B1 := B0.trans (k1.mono B0.size)
    go_wp2
    go_ret
    exact ⟨rfl, B1⟩
  | true =>
    cases x2 with
    | false =>
      simp only [Bool.true_and, Bool.false_and]
      go_enter Tryd.func70, Tryd.ntmps70
      go_upto_region 1 with (fail)
      generalize hw0 : (w.alloc (.cells (ogC x) 61)) = w0 at *
      clear hw0
      have c0_0 := HA0.cv 0 (.int .i64 x.ou) rfl
      go_wp2_with fail
      refine (H1.out _ _ (IRow.new1 w0 x.ou _)).mono ?_
      rintro e w1 ⟨rfl, k1⟩
      replace k1 : Below w0.heap.size w0 w1 := ((Below.refl _ _).alloc (Nat.le_refl _) _).trans (k1.mono (by simp))
      have HA1 := HA0.kept k1
      have B1 := B0.trans (k1.mono B0.size)
      have c1_1 := HA1.cv 1 (.int .i64 x.su) rfl
      go_wp2_with fail
      refine (H2.out _ _ (IRow.new1 w1 x.su _)).mono ?_
      rintro e w2 ⟨rfl, k2⟩
      replace k2 : Below w1.heap.size w1 w2 := ((Below.refl _ _).alloc (Nat.le_refl _) _).trans (k2.mono (by simp))
      have HA2 := HA1.kept k2
      have B2 := B1.trans (k2.mono B1.size)
      go_wp2
      go_ret
      exact ⟨rfl, B2⟩
    | true =>
      simp only [Bool.true_and]
      go_enter Tryd.func70, Tryd.ntmps70
      go_upto_region 1 with (fail)
      generalize hw0 : (w.alloc (.cells (ogC x) 61)) = w0 at *
      clear hw0
      have c0_0 := HA0.cv 0 (.int .i64 x.ou) rfl
      go_wp2_with fail
      refine (H1.out _ _ (IRow.new1 w0 x.ou _)).mono ?_
      rintro e w1 ⟨rfl, k1⟩
      replace k1 : Below w0.heap.size w0 w1 := ((Below.refl _ _).alloc (Nat.le_refl _) _).trans (k1.mono (by simp))
      have HA1 := HA0.kept k1
      have B1 := B0.trans (k1.mono B0.size)
      have c1_1 := HA1.cv 1 (.int .i64 x.su) rfl
      go_wp2_with fail
      refine (H2.out _ _ (IRow.new1 w1 x.su _)).mono ?_
      rintro e w2 ⟨rfl, k2⟩
      replace k2 : Below w1.heap.size w1 w2 := ((Below.refl _ _).alloc (Nat.le_refl _) _).trans (k2.mono (by simp))
      have HA2 := HA1.kept k2
      have B2 := B1.trans (k2.mono B1.size)
      have c2_2 := HA2.cv 2 (.string x.nf) rfl
      go_wp2
      go_ret
      exact ⟨rfl, B2⟩

end Go.Proofs.YticjmjoiggnblaaDoor
