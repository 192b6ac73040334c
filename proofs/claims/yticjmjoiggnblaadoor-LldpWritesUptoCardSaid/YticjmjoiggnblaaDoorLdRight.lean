/- lldp.Right at every announcement. -/
import Derived.Test.YticjmjoiggnblaaDoorLdV
import Derived.Test.YticjmjoiggnblaaDoorLdEachS
import Derived.Test.YticjmjoiggnblaaDoorLdEachC
import Derived.Test.YticjmjoiggnblaaDoorLdEachM
import Derived.Test.YticjmjoiggnblaaDoorLdEachO
namespace Go.Proofs.YticjmjoiggnblaaDoor
open Go.RowKit
attribute [local go_sem ↓] Go.wp_at_zero Go.wp_at_succ
set_option linter.unusedSimpArgs false
set_option linter.unusedVariables false
set_option maxRecDepth 100000

set_option maxHeartbeats 12800000 in
theorem ldRight_any (x : Ld) (q : LdA) (w : World) (h : LdIn w x q) (hr : rgLd x) : Calls Tryd.prog 25 #[.agg (ldC x q)] w fun e w' => e = .returned (.bool (okLd x)) ∧ Below w.heap.size w w' := by
  obtain ⟨r1, r2, r3, r4, r5, r6, n1, n2, n3, n4, n5, n6⟩ := hr
  obtain ⟨h1, h2, h3, h4, h5, h6⟩ := h
  have HA0 := Blk.new w 54 (ldC x q)
  have B0 : Below w.heap.size w (w.alloc (.cells (ldC x q) 54)) := (Below.refl _ _).alloc (Nat.le_refl _) _
  have H1 := Lib.hid (isName_any x.ch)
  have H2 := Lib.hid (isName_any x.po)
  have H3 := Lib.hid (fun (g : Nat) (W : World) (h : IRow W g [x.tt]) => fitsI1 2 (by decide) (by decide) x.tt r3 g W h)
  have H4 := Lib.hid (fun W (h : StIn W q.de.1 x.de) => st_few q.de.1 q.de.2 x.de W h n1)
  have H5 := Lib.hid (fun W (h : StIn W q.ho.1 x.ho) => st_few q.ho.1 q.ho.2 x.ho W h n2)
  have H6 := Lib.hid (fun W (h : StIn W q.sy.1 x.sy) => st_few q.sy.1 q.sy.2 x.sy W h n3)
  have H7 := Lib.hid (fun W (h : CpIn W q.ca.1 x.ca) => cp_few q.ca.1 q.ca.2 x.ca r4 W h n4)
  have H9 := Lib.hid (fun W (h : MgIn W q.ma.1 x.ma) => mg_each q.ma.1 q.ma.2 x.ma r5 W h n5)
  have H11 := Lib.hid (fun W (h : OgIn W q.og.1 x.og) => og_each q.og.1 q.og.2 x.og r6 W h n6)
  unfold okLd
  obtain ⟨x8, hx8⟩ : ∃ x8, decide ((x.ma.length : Int) ≤ 20) = x8 := ⟨_, rfl⟩
  obtain ⟨x10, hx10⟩ : ∃ x10, decide ((x.og.length : Int) ≤ 20) = x10 := ⟨_, rfl⟩
  rw [hx8, hx10]
  generalize x.og.all okOg = x11 at *
  generalize x.ma.all okMg = x9 at *
  generalize few okCp x.ca = x7 at *
  generalize few okSt x.sy = x6 at *
  generalize few okSt x.ho = x5 at *
  generalize few okSt x.de = x4 at *
  generalize fitI 2 x.tt = x3 at *
  generalize okNm x.po = x2 at *
  generalize okNm x.ch = x1 at *
  clear r1 r2 r3 r4 r5 r6 n1 n2 n3 n4 n5 n6
  cases x1 with
  | false =>
    simp only [Bool.true_and, Bool.false_and]
    go_enter Tryd.func25, Tryd.ntmps25
    go_upto_region 1 with (fail)
    generalize hw0 : (w.alloc (.cells (ldC x q) 54)) = w0 at *
    clear hw0
    go_wp2_with (refine load_blk (k := 0) 48 (nmC x.ch) (by rfl) rfl rfl HA0 (by kernel_rfl) (by kernel_rfl) rfl ?_)
    refine (H1.out _).mono ?_
    rintro e w1 ⟨rfl, k1⟩
    have HA1 := HA0.kept k1
    have B1 := B0.trans (k1.mono B0.size)
    go_wp2
    go_ret
    exact ⟨rfl, B1⟩
  | true =>
    cases x2 with
    | false =>
      simp only [Bool.true_and, Bool.false_and]
      go_enter Tryd.func25, Tryd.ntmps25
      go_upto_region 1 with (fail)
      generalize hw0 : (w.alloc (.cells (ldC x q) 54)) = w0 at *
      clear hw0
      go_wp2_with (refine load_blk (k := 0) 48 (nmC x.ch) (by rfl) rfl rfl HA0 (by kernel_rfl) (by kernel_rfl) rfl ?_)
      refine (H1.out _).mono ?_
      rintro e w1 ⟨rfl, k1⟩
      have HA1 := HA0.kept k1
      have B1 := B0.trans (k1.mono B0.size)
      go_wp2_with (refine load_blk (k := 2) 48 (nmC x.po) (by rfl) rfl rfl HA1 (by kernel_rfl) (by kernel_rfl) rfl ?_)
      refine (H2.out _).mono ?_
      rintro e w2 ⟨rfl, k2⟩
      have HA2 := HA1.kept k2
      have B2 := B1.trans (k2.mono B1.size)
      go_wp2
      go_ret
      exact ⟨rfl, B2⟩
    | true =>
      cases x3 with
      | false =>
        simp only [Bool.true_and, Bool.false_and]
        go_enter Tryd.func25, Tryd.ntmps25
        go_upto_region 1 with (fail)
        generalize hw0 : (w.alloc (.cells (ldC x q) 54)) = w0 at *
        clear hw0
        go_wp2_with (refine load_blk (k := 0) 48 (nmC x.ch) (by rfl) rfl rfl HA0 (by kernel_rfl) (by kernel_rfl) rfl ?_)
        refine (H1.out _).mono ?_
        rintro e w1 ⟨rfl, k1⟩
        have HA1 := HA0.kept k1
        have B1 := B0.trans (k1.mono B0.size)
        go_wp2_with (refine load_blk (k := 2) 48 (nmC x.po) (by rfl) rfl rfl HA1 (by kernel_rfl) (by kernel_rfl) rfl ?_)
        refine (H2.out _).mono ?_
        rintro e w2 ⟨rfl, k2⟩
        have HA2 := HA1.kept k2
        have B2 := B1.trans (k2.mono B1.size)
        have c4_2 := HA2.cv 4 (.int .i64 x.tt) rfl
        go_wp2_with fail
        refine (H3.out _ _ (IRow.new1 w2 x.tt _)).mono ?_
        rintro e w3 ⟨rfl, k3⟩
        replace k3 : Below w2.heap.size w2 w3 := ((Below.refl _ _).alloc (Nat.le_refl _) _).trans (k3.mono (by simp))
        have HA3 := HA2.kept k3
        have B3 := B2.trans (k3.mono B2.size)
        go_wp2
        go_ret
        exact ⟨rfl, B3⟩
      | true =>
        cases x4 with
        | false =>
          simp only [Bool.true_and, Bool.false_and]
          go_enter Tryd.func25, Tryd.ntmps25
          go_upto_region 1 with (fail)
          generalize hw0 : (w.alloc (.cells (ldC x q) 54)) = w0 at *
          clear hw0
          go_wp2_with (refine load_blk (k := 0) 48 (nmC x.ch) (by rfl) rfl rfl HA0 (by kernel_rfl) (by kernel_rfl) rfl ?_)
          refine (H1.out _).mono ?_
          rintro e w1 ⟨rfl, k1⟩
          have HA1 := HA0.kept k1
          have B1 := B0.trans (k1.mono B0.size)
          go_wp2_with (refine load_blk (k := 2) 48 (nmC x.po) (by rfl) rfl rfl HA1 (by kernel_rfl) (by kernel_rfl) rfl ?_)
          refine (H2.out _).mono ?_
          rintro e w2 ⟨rfl, k2⟩
          have HA2 := HA1.kept k2
          have B2 := B1.trans (k2.mono B1.size)
          have c4_2 := HA2.cv 4 (.int .i64 x.tt) rfl
          go_wp2_with fail
          refine (H3.out _ _ (IRow.new1 w2 x.tt _)).mono ?_
          rintro e w3 ⟨rfl, k3⟩
          replace k3 : Below w2.heap.size w2 w3 := ((Below.refl _ _).alloc (Nat.le_refl _) _).trans (k3.mono (by simp))
          have HA3 := HA2.kept k3
          have B3 := B2.trans (k3.mono B2.size)
          have c5_3 := HA3.cv 5 (.slice q.de.1 x.de.length q.de.2) rfl
          go_wp2_with fail
          refine (H4.out _ (h1.below B3)).mono ?_
          rintro e w4 ⟨rfl, k4⟩
          have HA4 := HA3.kept k4
          have B4 := B3.trans (k4.mono B3.size)
          go_wp2
          go_ret
          exact ⟨rfl, B4⟩
        | true =>
          cases x5 with
          | false =>
            simp only [Bool.true_and, Bool.false_and]
            go_enter Tryd.func25, Tryd.ntmps25
            go_upto_region 1 with (fail)
            generalize hw0 : (w.alloc (.cells (ldC x q) 54)) = w0 at *
            clear hw0
            go_wp2_with (refine load_blk (k := 0) 48 (nmC x.ch) (by rfl) rfl rfl HA0 (by kernel_rfl) (by kernel_rfl) rfl ?_)
            refine (H1.out _).mono ?_
            rintro e w1 ⟨rfl, k1⟩
            have HA1 := HA0.kept k1
            have B1 := B0.trans (k1.mono B0.size)
            go_wp2_with (refine load_blk (k := 2) 48 (nmC x.po) (by rfl) rfl rfl HA1 (by kernel_rfl) (by kernel_rfl) rfl ?_)
            refine (H2.out _).mono ?_
            rintro e w2 ⟨rfl, k2⟩
            have HA2 := HA1.kept k2
            have B2 := B1.trans (k2.mono B1.size)
            have c4_2 := HA2.cv 4 (.int .i64 x.tt) rfl
            go_wp2_with fail
            refine (H3.out _ _ (IRow.new1 w2 x.tt _)).mono ?_
            rintro e w3 ⟨rfl, k3⟩
            replace k3 : Below w2.heap.size w2 w3 := ((Below.refl _ _).alloc (Nat.le_refl _) _).trans (k3.mono (by simp))
            have HA3 := HA2.kept k3
            have B3 := B2.trans (k3.mono B2.size)
            have c5_3 := HA3.cv 5 (.slice q.de.1 x.de.length q.de.2) rfl
            go_wp2_with fail
            refine (H4.out _ (h1.below B3)).mono ?_
            rintro e w4 ⟨rfl, k4⟩
            have HA4 := HA3.kept k4
            have B4 := B3.trans (k4.mono B3.size)
            have c6_4 := HA4.cv 6 (.slice q.ho.1 x.ho.length q.ho.2) rfl
            go_wp2_with fail
            refine (H5.out _ (h2.below B4)).mono ?_
            rintro e w5 ⟨rfl, k5⟩
            have HA5 := HA4.kept k5
            have B5 := B4.trans (k5.mono B4.size)
            go_wp2
            go_ret
            exact ⟨rfl, B5⟩
          | true =>
            cases x6 with
            | false =>
              simp only [Bool.true_and, Bool.false_and]
              go_enter Tryd.func25, Tryd.ntmps25
              go_upto_region 1 with (fail)
              generalize hw0 : (w.alloc (.cells (ldC x q) 54)) = w0 at *
              clear hw0
              go_wp2_with (refine load_blk (k := 0) 48 (nmC x.ch) (by rfl) rfl rfl HA0 (by kernel_rfl) (by kernel_rfl) rfl ?_)
              refine (H1.out _).mono ?_
              rintro e w1 ⟨rfl, k1⟩
              have HA1 := HA0.kept k1
              have B1 := B0.trans (k1.mono B0.size)
              go_wp2_with (refine load_blk (k := 2) 48 (nmC x.po) (by rfl) rfl rfl HA1 (by kernel_rfl) (by kernel_rfl) rfl ?_)
              refine (H2.out _).mono ?_
              rintro e w2 ⟨rfl, k2⟩
              have HA2 := HA1.kept k2
              have B2 := B1.trans (k2.mono B1.size)
              have c4_2 := HA2.cv 4 (.int .i64 x.tt) rfl
              go_wp2_with fail
              refine (H3.out _ _ (IRow.new1 w2 x.tt _)).mono ?_
              rintro e w3 ⟨rfl, k3⟩
              replace k3 : Below w2.heap.size w2 w3 := ((Below.refl _ _).alloc (Nat.le_refl _) _).trans (k3.mono (by simp))
              have HA3 := HA2.kept k3
              have B3 := B2.trans (k3.mono B2.size)
              have c5_3 := HA3.cv 5 (.slice q.de.1 x.de.length q.de.2) rfl
              go_wp2_with fail
              refine (H4.out _ (h1.below B3)).mono ?_
              rintro e w4 ⟨rfl, k4⟩
              have HA4 := HA3.kept k4
              have B4 := B3.trans (k4.mono B3.size)
              have c6_4 := HA4.cv 6 (.slice q.ho.1 x.ho.length q.ho.2) rfl
              go_wp2_with fail
              refine (H5.out _ (h2.below B4)).mono ?_
              rintro e w5 ⟨rfl, k5⟩
              have HA5 := HA4.kept k5
              have B5 := B4.trans (k5.mono B4.size)
              have c7_5 := HA5.cv 7 (.slice q.sy.1 x.sy.length q.sy.2) rfl
              go_wp2_with fail
              refine (H6.out _ (h3.below B5)).mono ?_
              rintro e w6 ⟨rfl, k6⟩
              have HA6 := HA5.kept k6
              have B6 := B5.trans (k6.mono B5.size)
              go_wp2
              go_ret
              exact ⟨rfl, B6⟩
            | true =>
              cases x7 with
              | false =>
                simp only [Bool.true_and, Bool.false_and]
                go_enter Tryd.func25, Tryd.ntmps25
                go_upto_region 1 with (fail)
                generalize hw0 : (w.alloc (.cells (ldC x q) 54)) = w0 at *
                clear hw0
                go_wp2_with (refine load_blk (k := 0) 48 (nmC x.ch) (by rfl) rfl rfl HA0 (by kernel_rfl) (by kernel_rfl) rfl ?_)
                refine (H1.out _).mono ?_
                rintro e w1 ⟨rfl, k1⟩
                have HA1 := HA0.kept k1
                have B1 := B0.trans (k1.mono B0.size)
                go_wp2_with (refine load_blk (k := 2) 48 (nmC x.po) (by rfl) rfl rfl HA1 (by kernel_rfl) (by kernel_rfl) rfl ?_)
                refine (H2.out _).mono ?_
                rintro e w2 ⟨rfl, k2⟩
                have HA2 := HA1.kept k2
                have B2 := B1.trans (k2.mono B1.size)
                have c4_2 := HA2.cv 4 (.int .i64 x.tt) rfl
                go_wp2_with fail
                refine (H3.out _ _ (IRow.new1 w2 x.tt _)).mono ?_
                rintro e w3 ⟨rfl, k3⟩
                replace k3 : Below w2.heap.size w2 w3 := ((Below.refl _ _).alloc (Nat.le_refl _) _).trans (k3.mono (by simp))
                have HA3 := HA2.kept k3
                have B3 := B2.trans (k3.mono B2.size)
                have c5_3 := HA3.cv 5 (.slice q.de.1 x.de.length q.de.2) rfl
                go_wp2_with fail
                refine (H4.out _ (h1.below B3)).mono ?_
                rintro e w4 ⟨rfl, k4⟩
                have HA4 := HA3.kept k4
                have B4 := B3.trans (k4.mono B3.size)
                have c6_4 := HA4.cv 6 (.slice q.ho.1 x.ho.length q.ho.2) rfl
                go_wp2_with fail
                refine (H5.out _ (h2.below B4)).mono ?_
                rintro e w5 ⟨rfl, k5⟩
                have HA5 := HA4.kept k5
                have B5 := B4.trans (k5.mono B4.size)
                have c7_5 := HA5.cv 7 (.slice q.sy.1 x.sy.length q.sy.2) rfl
                go_wp2_with fail
                refine (H6.out _ (h3.below B5)).mono ?_
                rintro e w6 ⟨rfl, k6⟩
                have HA6 := HA5.kept k6
                have B6 := B5.trans (k6.mono B5.size)
                have c8_6 := HA6.cv 8 (.slice q.ca.1 x.ca.length q.ca.2) rfl
                go_wp2_with fail
                refine (H7.out _ (h4.below B6)).mono ?_
                rintro e w7 ⟨rfl, k7⟩
                have HA7 := HA6.kept k7
                have B7 := B6.trans (k7.mono B6.size)
                go_wp2
                go_ret
                exact ⟨rfl, B7⟩
              | true =>
                cases x8 with
                | false =>
                  simp only [Bool.true_and, Bool.false_and]
                  go_enter Tryd.func25, Tryd.ntmps25
                  go_upto_region 1 with (fail)
                  generalize hw0 : (w.alloc (.cells (ldC x q) 54)) = w0 at *
                  clear hw0
                  go_wp2_with (refine load_blk (k := 0) 48 (nmC x.ch) (by rfl) rfl rfl HA0 (by kernel_rfl) (by kernel_rfl) rfl ?_)
                  refine (H1.out _).mono ?_
                  rintro e w1 ⟨rfl, k1⟩
                  have HA1 := HA0.kept k1
                  have B1 := B0.trans (k1.mono B0.size)
                  go_wp2_with (refine load_blk (k := 2) 48 (nmC x.po) (by rfl) rfl rfl HA1 (by kernel_rfl) (by kernel_rfl) rfl ?_)
                  refine (H2.out _).mono ?_
                  rintro e w2 ⟨rfl, k2⟩
                  have HA2 := HA1.kept k2
                  have B2 := B1.trans (k2.mono B1.size)
                  have c4_2 := HA2.cv 4 (.int .i64 x.tt) rfl
                  go_wp2_with fail
                  refine (H3.out _ _ (IRow.new1 w2 x.tt _)).mono ?_
                  rintro e w3 ⟨rfl, k3⟩
                  replace k3 : Below w2.heap.size w2 w3 := ((Below.refl _ _).alloc (Nat.le_refl _) _).trans (k3.mono (by simp))
                  have HA3 := HA2.kept k3
                  have B3 := B2.trans (k3.mono B2.size)
                  have c5_3 := HA3.cv 5 (.slice q.de.1 x.de.length q.de.2) rfl
                  go_wp2_with fail
                  refine (H4.out _ (h1.below B3)).mono ?_
                  rintro e w4 ⟨rfl, k4⟩
                  have HA4 := HA3.kept k4
                  have B4 := B3.trans (k4.mono B3.size)
                  have c6_4 := HA4.cv 6 (.slice q.ho.1 x.ho.length q.ho.2) rfl
                  go_wp2_with fail
                  refine (H5.out _ (h2.below B4)).mono ?_
                  rintro e w5 ⟨rfl, k5⟩
                  have HA5 := HA4.kept k5
                  have B5 := B4.trans (k5.mono B4.size)
                  have c7_5 := HA5.cv 7 (.slice q.sy.1 x.sy.length q.sy.2) rfl
                  go_wp2_with fail
                  refine (H6.out _ (h3.below B5)).mono ?_
                  rintro e w6 ⟨rfl, k6⟩
                  have HA6 := HA5.kept k6
                  have B6 := B5.trans (k6.mono B5.size)
                  have c8_6 := HA6.cv 8 (.slice q.ca.1 x.ca.length q.ca.2) rfl
                  go_wp2_with fail
                  refine (H7.out _ (h4.below B6)).mono ?_
                  rintro e w7 ⟨rfl, k7⟩
                  have HA7 := HA6.kept k7
                  have B7 := B6.trans (k7.mono B6.size)
                  have c9_7 := HA7.cv 9 (.slice q.ma.1 x.ma.length q.ma.2) rfl
                  go_wp2
                  go_ret
                  exact ⟨rfl, B7⟩
                | true =>
                  cases x9 with
                  | false =>
                    simp only [Bool.true_and, Bool.false_and]
                    go_enter Tryd.func25, Tryd.ntmps25
                    go_upto_region 1 with (fail)
                    generalize hw0 : (w.alloc (.cells (ldC x q) 54)) = w0 at *
                    clear hw0
                    go_wp2_with (refine load_blk (k := 0) 48 (nmC x.ch) (by rfl) rfl rfl HA0 (by kernel_rfl) (by kernel_rfl) rfl ?_)
                    refine (H1.out _).mono ?_
                    rintro e w1 ⟨rfl, k1⟩
                    have HA1 := HA0.kept k1
                    have B1 := B0.trans (k1.mono B0.size)
                    go_wp2_with (refine load_blk (k := 2) 48 (nmC x.po) (by rfl) rfl rfl HA1 (by kernel_rfl) (by kernel_rfl) rfl ?_)
                    refine (H2.out _).mono ?_
                    rintro e w2 ⟨rfl, k2⟩
                    have HA2 := HA1.kept k2
                    have B2 := B1.trans (k2.mono B1.size)
                    have c4_2 := HA2.cv 4 (.int .i64 x.tt) rfl
                    go_wp2_with fail
                    refine (H3.out _ _ (IRow.new1 w2 x.tt _)).mono ?_
                    rintro e w3 ⟨rfl, k3⟩
                    replace k3 : Below w2.heap.size w2 w3 := ((Below.refl _ _).alloc (Nat.le_refl _) _).trans (k3.mono (by simp))
                    have HA3 := HA2.kept k3
                    have B3 := B2.trans (k3.mono B2.size)
                    have c5_3 := HA3.cv 5 (.slice q.de.1 x.de.length q.de.2) rfl
                    go_wp2_with fail
                    refine (H4.out _ (h1.below B3)).mono ?_
                    rintro e w4 ⟨rfl, k4⟩
                    have HA4 := HA3.kept k4
                    have B4 := B3.trans (k4.mono B3.size)
                    have c6_4 := HA4.cv 6 (.slice q.ho.1 x.ho.length q.ho.2) rfl
                    go_wp2_with fail
                    refine (H5.out _ (h2.below B4)).mono ?_
                    rintro e w5 ⟨rfl, k5⟩
                    have HA5 := HA4.kept k5
                    have B5 := B4.trans (k5.mono B4.size)
                    have c7_5 := HA5.cv 7 (.slice q.sy.1 x.sy.length q.sy.2) rfl
                    go_wp2_with fail
                    refine (H6.out _ (h3.below B5)).mono ?_
                    rintro e w6 ⟨rfl, k6⟩
                    have HA6 := HA5.kept k6
                    have B6 := B5.trans (k6.mono B5.size)
                    have c8_6 := HA6.cv 8 (.slice q.ca.1 x.ca.length q.ca.2) rfl
                    go_wp2_with fail
                    refine (H7.out _ (h4.below B6)).mono ?_
                    rintro e w7 ⟨rfl, k7⟩
                    have HA7 := HA6.kept k7
                    have B7 := B6.trans (k7.mono B6.size)
                    have c9_7 := HA7.cv 9 (.slice q.ma.1 x.ma.length q.ma.2) rfl
                    go_wp2_with fail
                    refine (H9.out _ (h5.below B7)).mono ?_
                    rintro e w8 ⟨rfl, k8⟩
                    have HA8 := HA7.kept k8
                    have B8 := B7.trans (k8.mono B7.size)
                    go_wp2
                    go_ret
                    exact ⟨rfl, B8⟩
                  | true =>
                    cases x10 with
                    | false =>
                      simp only [Bool.true_and, Bool.false_and]
                      go_enter Tryd.func25, Tryd.ntmps25
                      go_upto_region 1 with (fail)
                      generalize hw0 : (w.alloc (.cells (ldC x q) 54)) = w0 at *
                      clear hw0
                      go_wp2_with (refine load_blk (k := 0) 48 (nmC x.ch) (by rfl) rfl rfl HA0 (by kernel_rfl) (by kernel_rfl) rfl ?_)
                      refine (H1.out _).mono ?_
                      rintro e w1 ⟨rfl, k1⟩
                      have HA1 := HA0.kept k1
                      have B1 := B0.trans (k1.mono B0.size)
                      go_wp2_with (refine load_blk (k := 2) 48 (nmC x.po) (by rfl) rfl rfl HA1 (by kernel_rfl) (by kernel_rfl) rfl ?_)
                      refine (H2.out _).mono ?_
                      rintro e w2 ⟨rfl, k2⟩
                      have HA2 := HA1.kept k2
                      have B2 := B1.trans (k2.mono B1.size)
                      have c4_2 := HA2.cv 4 (.int .i64 x.tt) rfl
                      go_wp2_with fail
                      refine (H3.out _ _ (IRow.new1 w2 x.tt _)).mono ?_
                      rintro e w3 ⟨rfl, k3⟩
                      replace k3 : Below w2.heap.size w2 w3 := ((Below.refl _ _).alloc (Nat.le_refl _) _).trans (k3.mono (by simp))
                      have HA3 := HA2.kept k3
                      have B3 := B2.trans (k3.mono B2.size)
                      have c5_3 := HA3.cv 5 (.slice q.de.1 x.de.length q.de.2) rfl
                      go_wp2_with fail
                      refine (H4.out _ (h1.below B3)).mono ?_
                      rintro e w4 ⟨rfl, k4⟩
                      have HA4 := HA3.kept k4
                      have B4 := B3.trans (k4.mono B3.size)
                      have c6_4 := HA4.cv 6 (.slice q.ho.1 x.ho.length q.ho.2) rfl
                      go_wp2_with fail
                      refine (H5.out _ (h2.below B4)).mono ?_
                      rintro e w5 ⟨rfl, k5⟩
                      have HA5 := HA4.kept k5
                      have B5 := B4.trans (k5.mono B4.size)
                      have c7_5 := HA5.cv 7 (.slice q.sy.1 x.sy.length q.sy.2) rfl
                      go_wp2_with fail
                      refine (H6.out _ (h3.below B5)).mono ?_
                      rintro e w6 ⟨rfl, k6⟩
                      have HA6 := HA5.kept k6
                      have B6 := B5.trans (k6.mono B5.size)
                      have c8_6 := HA6.cv 8 (.slice q.ca.1 x.ca.length q.ca.2) rfl
                      go_wp2_with fail
                      refine (H7.out _ (h4.below B6)).mono ?_
                      rintro e w7 ⟨rfl, k7⟩
                      have HA7 := HA6.kept k7
                      have B7 := B6.trans (k7.mono B6.size)
                      have c9_7 := HA7.cv 9 (.slice q.ma.1 x.ma.length q.ma.2) rfl
                      go_wp2_with fail
                      refine (H9.out _ (h5.below B7)).mono ?_
                      rintro e w8 ⟨rfl, k8⟩
                      have HA8 := HA7.kept k8
                      have B8 := B7.trans (k8.mono B7.size)
                      have c10_8 := HA8.cv 10 (.slice q.og.1 x.og.length q.og.2) rfl
                      go_wp2
                      go_ret
                      exact ⟨rfl, B8⟩
                    | true =>
                      simp only [Bool.true_and]
                      go_enter Tryd.func25, Tryd.ntmps25
                      go_upto_region 1 with (fail)
                      generalize hw0 : (w.alloc (.cells (ldC x q) 54)) = w0 at *
                      clear hw0
                      go_wp2_with (refine load_blk (k := 0) 48 (nmC x.ch) (by rfl) rfl rfl HA0 (by kernel_rfl) (by kernel_rfl) rfl ?_)
                      refine (H1.out _).mono ?_
                      rintro e w1 ⟨rfl, k1⟩
                      have HA1 := HA0.kept k1
                      have B1 := B0.trans (k1.mono B0.size)
                      go_wp2_with (refine load_blk (k := 2) 48 (nmC x.po) (by rfl) rfl rfl HA1 (by kernel_rfl) (by kernel_rfl) rfl ?_)
                      refine (H2.out _).mono ?_
                      rintro e w2 ⟨rfl, k2⟩
                      have HA2 := HA1.kept k2
                      have B2 := B1.trans (k2.mono B1.size)
                      have c4_2 := HA2.cv 4 (.int .i64 x.tt) rfl
                      go_wp2_with fail
                      refine (H3.out _ _ (IRow.new1 w2 x.tt _)).mono ?_
                      rintro e w3 ⟨rfl, k3⟩
                      replace k3 : Below w2.heap.size w2 w3 := ((Below.refl _ _).alloc (Nat.le_refl _) _).trans (k3.mono (by simp))
                      have HA3 := HA2.kept k3
                      have B3 := B2.trans (k3.mono B2.size)
                      have c5_3 := HA3.cv 5 (.slice q.de.1 x.de.length q.de.2) rfl
                      go_wp2_with fail
                      refine (H4.out _ (h1.below B3)).mono ?_
                      rintro e w4 ⟨rfl, k4⟩
                      have HA4 := HA3.kept k4
                      have B4 := B3.trans (k4.mono B3.size)
                      have c6_4 := HA4.cv 6 (.slice q.ho.1 x.ho.length q.ho.2) rfl
                      go_wp2_with fail
                      refine (H5.out _ (h2.below B4)).mono ?_
                      rintro e w5 ⟨rfl, k5⟩
                      have HA5 := HA4.kept k5
                      have B5 := B4.trans (k5.mono B4.size)
                      have c7_5 := HA5.cv 7 (.slice q.sy.1 x.sy.length q.sy.2) rfl
                      go_wp2_with fail
                      refine (H6.out _ (h3.below B5)).mono ?_
                      rintro e w6 ⟨rfl, k6⟩
                      have HA6 := HA5.kept k6
                      have B6 := B5.trans (k6.mono B5.size)
                      have c8_6 := HA6.cv 8 (.slice q.ca.1 x.ca.length q.ca.2) rfl
                      go_wp2_with fail
                      refine (H7.out _ (h4.below B6)).mono ?_
                      rintro e w7 ⟨rfl, k7⟩
                      have HA7 := HA6.kept k7
                      have B7 := B6.trans (k7.mono B6.size)
                      have c9_7 := HA7.cv 9 (.slice q.ma.1 x.ma.length q.ma.2) rfl
                      go_wp2_with fail
                      refine (H9.out _ (h5.below B7)).mono ?_
                      rintro e w8 ⟨rfl, k8⟩
                      have HA8 := HA7.kept k8
                      have B8 := B7.trans (k8.mono B7.size)
                      have c10_8 := HA8.cv 10 (.slice q.og.1 x.og.length q.og.2) rfl
                      go_wp2_with fail
                      refine (H11.out _ (h6.below B8)).mono ?_
                      rintro e w9 ⟨rfl, k9⟩
                      have HA9 := HA8.kept k9
                      have B9 := B8.trans (k9.mono B8.size)
                      go_wp2
                      go_ret
                      exact ⟨rfl, B9⟩

end Go.Proofs.YticjmjoiggnblaaDoor
