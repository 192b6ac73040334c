/- The reference on the parts of an announcement. -/
import Derived.Test.YticjmjoiggnblaaDoorLdS
import Derived.Test.YticjmjoiggnblaaDoorLdCapM
namespace Go.Proofs.YticjmjoiggnblaaDoor
open Go.RowKit
attribute [local go_sem ↓] Go.wp_at_zero Go.wp_at_succ
set_option linter.unusedSimpArgs false
set_option linter.unusedVariables false
set_option maxRecDepth 100000

theorem withinRf_any (x a b : Int) (w : World) : Calls Tryd.prog 77 #[.int .i64 x, .int .i64 a, .int .i64 b] w fun e w' => e = .returned (.bool (wthn x a b)) ∧ Below w.heap.size w w' := by
  unfold wthn
  by_cases h1 : a ≤ x
  · have d1 : decide (a ≤ x) = true := decide_eq_true h1
    obtain ⟨d2, hd⟩ : ∃ d2, decide (x ≤ b) = d2 := ⟨_, rfl⟩
    rw [d1, Bool.true_and]
    go_enter Tryd.func77, Tryd.ntmps77
    go_wp2
    go_ret
    exact ⟨by rw [hd]; rfl, Below.refl _ _⟩
  · have d1 : decide (a ≤ x) = false := decide_eq_false h1
    rw [d1, Bool.false_and]
    go_enter Tryd.func77, Tryd.ntmps77
    go_wp2
    go_ret
    exact ⟨rfl, Below.refl _ _⟩
/-- The reference's own words for what may be. -/
def okMgR (x : Mg) : Bool := wthn x.as 0 255 && (wthn x.ai.size 1 31 && (wthn x.fs 1 3 && (wthn x.fi 0 4294967295 && decide ((x.oid.size : Int) ≤ 128))))
def okOgR (x : Og) : Bool := wthn x.ou 0 16777215 && (wthn x.su 0 255 && decide ((x.nf.size : Int) ≤ 507))
def okCpR (x : Cp) : Bool := wthn x.h 0 65535 && (wthn x.o 0 65535 && (List.range 16).all fun j => !capB x.h.toNat x.o.toNat j)
theorem fit_wthn (n : Nat) (m v : Int) (h : (256 : Int) ^ n = m + 1) : fitI n v = wthn v 0 m := by
  unfold fitI wthn
  rw [h]
  have : decide (v < m + 1) = decide (v ≤ m) := by
    by_cases q : v ≤ m
    · rw [decide_eq_true q, decide_eq_true (by omega)]
    · rw [decide_eq_false q, decide_eq_false (by omega)]
  rw [this]
theorem okMgR_eq (x : Mg) : okMgR x = okMg x := by
  unfold okMgR okMg
  rw [fit_wthn 1 255 _ (by decide), fit_wthn 4 4294967295 _ (by decide)]
theorem okOgR_eq (x : Og) : okOgR x = okOg x := by
  unfold okOgR okOg
  rw [fit_wthn 1 255 _ (by decide), fit_wthn 3 16777215 _ (by decide)]
theorem okCpR_eq (x : Cp) : okCpR x = okCp x := by
  unfold okCpR okCp
  simp only [List.all_cons, List.all_nil, Bool.and_true]
  rw [fit_wthn 2 65535 _ (by decide), fit_wthn 2 65535 _ (by decide), ← Bool.and_assoc]
  cases h1 : wthn x.h 0 65535 with
  | false => simp
  | true =>
    cases h2 : wthn x.o 0 65535 with
    | false => simp
    | true =>
      simp only [wthn, Bool.and_eq_true, decide_eq_true_eq] at h1 h2
      obtain ⟨xh, xo⟩ := x
      dsimp only at h1 h2 ⊢
      obtain ⟨H, rfl⟩ := Int.eq_ofNat_of_zero_le h1.1
      obtain ⟨O, rfl⟩ := Int.eq_ofNat_of_zero_le h2.1
      rw [andNot_zero O H (by omega) (by omega)]
      rfl

theorem nameRight_any (x : Nm) (w : World) : Calls Tryd.prog 85 #[.agg (nmC x)] w fun e w' => e = .returned (.bool (okNm x)) ∧ Below w.heap.size w w' := by
  have HA0 := Blk.new w 48 (nmC x)
  have B0 : Below w.heap.size w (w.alloc (.cells (nmC x) 48)) := (Below.refl _ _).alloc (Nat.le_refl _) _
  have H1 := Lib.hid (fun W => withinRf_any x.su 1 7 W)
  have H2 := Lib.hid (fun W => withinRf_any x.id.size 1 255 W)
  unfold okNm
  generalize wthn x.id.size 1 255 = x2 at *
  generalize wthn x.su 1 7 = x1 at *
  cases x1 with
  | false =>
    simp only [Bool.true_and, Bool.false_and]
    go_enter Tryd.func85, Tryd.ntmps85
    go_upto_region 1 with (fail)
    generalize hw0 : (w.alloc (.cells (nmC x) 48)) = w0 at *
    clear hw0
    have c0_0 := HA0.cv 0 (.int .i64 x.su) rfl
    go_wp2_with fail
    refine (H1.out _).mono ?_
    rintro e w1 ⟨rfl, k1⟩
    have HA1 := HA0.kept k1
    have B1 := B0.trans (k1.mono B0.size)
    go_wp2
    go_ret
    exact ⟨rfl, B1⟩
  | true =>
    simp only [Bool.true_and]
    go_enter Tryd.func85, Tryd.ntmps85
    go_upto_region 1 with (fail)
    generalize hw0 : (w.alloc (.cells (nmC x) 48)) = w0 at *
    clear hw0
    have c0_0 := HA0.cv 0 (.int .i64 x.su) rfl
    go_wp2_with fail
    refine (H1.out _).mono ?_
    rintro e w1 ⟨rfl, k1⟩
    have HA1 := HA0.kept k1
    have B1 := B0.trans (k1.mono B0.size)
    have c1_1 := HA1.cv 1 (.string x.id) rfl
    go_wp2_with fail
    refine (H2.out _).mono ?_
    rintro e w2 ⟨rfl, k2⟩
    have HA2 := HA1.kept k2
    have B2 := B1.trans (k2.mono B1.size)
    go_wp2
    go_ret
    exact ⟨rfl, B2⟩

set_option maxHeartbeats 1600000 in
theorem manageRight_any (x : Mg) (w : World) : Calls Tryd.prog 87 #[.agg (mgC x)] w fun e w' => e = .returned (.bool (okMgR x)) ∧ Below w.heap.size w w' := by
  have HA0 := Blk.new w 114 (mgC x)
  have B0 : Below w.heap.size w (w.alloc (.cells (mgC x) 114)) := (Below.refl _ _).alloc (Nat.le_refl _) _
  have H1 := Lib.hid (fun W => withinRf_any x.as 0 255 W)
  have H2 := Lib.hid (fun W => withinRf_any x.ai.size 1 31 W)
  have H3 := Lib.hid (fun W => withinRf_any x.fs 1 3 W)
  have H4 := Lib.hid (fun W => withinRf_any x.fi 0 4294967295 W)
  unfold okMgR
  obtain ⟨x5, hx5⟩ : ∃ x5, decide ((x.oid.size : Int) ≤ 128) = x5 := ⟨_, rfl⟩
  rw [hx5]
  generalize wthn x.fi 0 4294967295 = x4 at *
  generalize wthn x.fs 1 3 = x3 at *
  generalize wthn x.ai.size 1 31 = x2 at *
  generalize wthn x.as 0 255 = x1 at *
  cases x1 with
  | false =>
    simp only [Bool.true_and, Bool.false_and]
    go_enter Tryd.func87, Tryd.ntmps87
    go_upto_region 1 with (fail)
    generalize hw0 : (w.alloc (.cells (mgC x) 114)) = w0 at *
    clear hw0
    have c0_0 := HA0.cv 0 (.int .i64 x.as) rfl
    go_wp2_with fail
    refine (H1.out _).mono ?_
    rintro e w1 ⟨rfl, k1⟩
    have HA1 := HA0.kept k1
    have B1 := B0.trans (k1.mono B0.size)
    go_wp2
    go_ret
    exact ⟨rfl, B1⟩
  | true =>
    cases x2 with
    | false =>
      simp only [Bool.true_and, Bool.false_and]
      go_enter Tryd.func87, Tryd.ntmps87
      go_upto_region 1 with (fail)
      generalize hw0 : (w.alloc (.cells (mgC x) 114)) = w0 at *
      clear hw0
      have c0_0 := HA0.cv 0 (.int .i64 x.as) rfl
      go_wp2_with fail
      refine (H1.out _).mono ?_
      rintro e w1 ⟨rfl, k1⟩
      have HA1 := HA0.kept k1
      have B1 := B0.trans (k1.mono B0.size)
      have c1_1 := HA1.cv 1 (.string x.ai) rfl
      go_wp2_with fail
      refine (H2.out _).mono ?_
      rintro e w2 ⟨rfl, k2⟩
      have HA2 := HA1.kept k2
      have B2 := B1.trans (k2.mono B1.size)
      go_wp2
      go_ret
      exact ⟨rfl, B2⟩
    | true =>
      cases x3 with
      | false =>
        simp only [Bool.true_and, Bool.false_and]
        go_enter Tryd.func87, Tryd.ntmps87
        go_upto_region 1 with (fail)
        generalize hw0 : (w.alloc (.cells (mgC x) 114)) = w0 at *
        clear hw0
        have c0_0 := HA0.cv 0 (.int .i64 x.as) rfl
        go_wp2_with fail
        refine (H1.out _).mono ?_
        rintro e w1 ⟨rfl, k1⟩
        have HA1 := HA0.kept k1
        have B1 := B0.trans (k1.mono B0.size)
        have c1_1 := HA1.cv 1 (.string x.ai) rfl
        go_wp2_with fail
        refine (H2.out _).mono ?_
        rintro e w2 ⟨rfl, k2⟩
        have HA2 := HA1.kept k2
        have B2 := B1.trans (k2.mono B1.size)
        have c2_2 := HA2.cv 2 (.int .i64 x.fs) rfl
        go_wp2_with fail
        refine (H3.out _).mono ?_
        rintro e w3 ⟨rfl, k3⟩
        have HA3 := HA2.kept k3
        have B3 := B2.trans (k3.mono B2.size)
        go_wp2
        go_ret
        exact ⟨rfl, B3⟩
      | true =>
        cases x4 with
        | false =>
          simp only [Bool.true_and, Bool.false_and]
          go_enter Tryd.func87, Tryd.ntmps87
          go_upto_region 1 with (fail)
          generalize hw0 : (w.alloc (.cells (mgC x) 114)) = w0 at *
          clear hw0
          have c0_0 := HA0.cv 0 (.int .i64 x.as) rfl
          go_wp2_with fail
          refine (H1.out _).mono ?_
          rintro e w1 ⟨rfl, k1⟩
          have HA1 := HA0.kept k1
          have B1 := B0.trans (k1.mono B0.size)
          have c1_1 := HA1.cv 1 (.string x.ai) rfl
          go_wp2_with fail
          refine (H2.out _).mono ?_
          rintro e w2 ⟨rfl, k2⟩
          have HA2 := HA1.kept k2
          have B2 := B1.trans (k2.mono B1.size)
          have c2_2 := HA2.cv 2 (.int .i64 x.fs) rfl
          go_wp2_with fail
          refine (H3.out _).mono ?_
          rintro e w3 ⟨rfl, k3⟩
          have HA3 := HA2.kept k3
          have B3 := B2.trans (k3.mono B2.size)
          have c3_3 := HA3.cv 3 (.int .i64 x.fi) rfl
          go_wp2_with fail
          refine (H4.out _).mono ?_
          rintro e w4 ⟨rfl, k4⟩
          have HA4 := HA3.kept k4
          have B4 := B3.trans (k4.mono B3.size)
          go_wp2
          go_ret
          exact ⟨rfl, B4⟩
        | true =>
          simp only [Bool.true_and]
          go_enter Tryd.func87, Tryd.ntmps87
          go_upto_region 1 with (fail)
          generalize hw0 : (w.alloc (.cells (mgC x) 114)) = w0 at *
          clear hw0
          have c0_0 := HA0.cv 0 (.int .i64 x.as) rfl
          go_wp2_with fail
          refine (H1.out _).mono ?_
          rintro e w1 ⟨rfl, k1⟩
          have HA1 := HA0.kept k1
          have B1 := B0.trans (k1.mono B0.size)
          have c1_1 := HA1.cv 1 (.string x.ai) rfl
          go_wp2_with fail
          refine (H2.out _).mono ?_
          rintro e w2 ⟨rfl, k2⟩
          have HA2 := HA1.kept k2
          have B2 := B1.trans (k2.mono B1.size)
          have c2_2 := HA2.cv 2 (.int .i64 x.fs) rfl
          go_wp2_with fail
          refine (H3.out _).mono ?_
          rintro e w3 ⟨rfl, k3⟩
          have HA3 := HA2.kept k3
          have B3 := B2.trans (k3.mono B2.size)
          have c3_3 := HA3.cv 3 (.int .i64 x.fi) rfl
          go_wp2_with fail
          refine (H4.out _).mono ?_
          rintro e w4 ⟨rfl, k4⟩
          have HA4 := HA3.kept k4
          have B4 := B3.trans (k4.mono B3.size)
          have c4_4 := HA4.cv 4 (.string x.oid) rfl
          go_wp2
          go_ret
          exact ⟨rfl, B4⟩

set_option maxHeartbeats 1600000 in
theorem orgRight_any (x : Og) (w : World) : Calls Tryd.prog 88 #[.agg (ogC x)] w fun e w' => e = .returned (.bool (okOgR x)) ∧ Below w.heap.size w w' := by
  have HA0 := Blk.new w 61 (ogC x)
  have B0 : Below w.heap.size w (w.alloc (.cells (ogC x) 61)) := (Below.refl _ _).alloc (Nat.le_refl _) _
  have H1 := Lib.hid (fun W => withinRf_any x.ou 0 16777215 W)
  have H2 := Lib.hid (fun W => withinRf_any x.su 0 255 W)
  unfold okOgR
  obtain ⟨x3, hx3⟩ : ∃ x3, decide ((x.nf.size : Int) ≤ 507) = x3 := ⟨_, rfl⟩
  rw [hx3]
  generalize wthn x.su 0 255 = x2 at *
  generalize wthn x.ou 0 16777215 = x1 at *
  cases x1 with
  | false =>
    simp only [Bool.true_and, Bool.false_and]
    go_enter Tryd.func88, Tryd.ntmps88
    go_upto_region 1 with (fail)
    generalize hw0 : (w.alloc (.cells (ogC x) 61)) = w0 at *
    clear hw0
    have c0_0 := HA0.cv 0 (.int .i64 x.ou) rfl
    go_wp2_with fail
    refine (H1.out _).mono ?_
    rintro e w1 ⟨rfl, k1⟩
    have HA1 := HA0.kept k1
    have B1 := B0.trans (k1.mono B0.size)
    go_wp2
    go_ret
    exact ⟨rfl, B1⟩
  | true =>
    cases x2 with
    | false =>
      simp only [Bool.true_and, Bool.false_and]
      go_enter Tryd.func88, Tryd.ntmps88
      go_upto_region 1 with (fail)
      generalize hw0 : (w.alloc (.cells (ogC x) 61)) = w0 at *
      clear hw0
      have c0_0 := HA0.cv 0 (.int .i64 x.ou) rfl
      go_wp2_with fail
      refine (H1.out _).mono ?_
      rintro e w1 ⟨rfl, k1⟩
      have HA1 := HA0.kept k1
      have B1 := B0.trans (k1.mono B0.size)
      have c1_1 := HA1.cv 1 (.int .i64 x.su) rfl
      go_wp2_with fail
      refine (H2.out _).mono ?_
      rintro e w2 ⟨rfl, k2⟩
      have HA2 := HA1.kept k2
      have B2 := B1.trans (k2.mono B1.size)
      go_wp2
      go_ret
      exact ⟨rfl, B2⟩
    | true =>
      simp only [Bool.true_and]
      go_enter Tryd.func88, Tryd.ntmps88
      go_upto_region 1 with (fail)
      generalize hw0 : (w.alloc (.cells (ogC x) 61)) = w0 at *
      clear hw0
      have c0_0 := HA0.cv 0 (.int .i64 x.ou) rfl
      go_wp2_with fail
      refine (H1.out _).mono ?_
      rintro e w1 ⟨rfl, k1⟩
      have HA1 := HA0.kept k1
      have B1 := B0.trans (k1.mono B0.size)
      have c1_1 := HA1.cv 1 (.int .i64 x.su) rfl
      go_wp2_with fail
      refine (H2.out _).mono ?_
      rintro e w2 ⟨rfl, k2⟩
      have HA2 := HA1.kept k2
      have B2 := B1.trans (k2.mono B1.size)
      have c2_2 := HA2.cv 2 (.string x.nf) rfl
      go_wp2
      go_ret
      exact ⟨rfl, B2⟩


end Go.Proofs.YticjmjoiggnblaaDoor
