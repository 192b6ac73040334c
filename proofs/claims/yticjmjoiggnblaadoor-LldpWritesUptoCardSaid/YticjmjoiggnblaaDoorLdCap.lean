/- The reference's capsRight. -/
import Derived.Test.YticjmjoiggnblaaDoorLdRefIs
namespace Go.Proofs.YticjmjoiggnblaaDoor
open Go.RowKit
attribute [local go_sem ↓] Go.wp_at_zero Go.wp_at_succ
set_option linter.unusedSimpArgs false
set_option linter.unusedVariables false
set_option maxRecDepth 100000

set_option maxHeartbeats 6400000 in
theorem capsRight_any (x : Cp) (w : World) : Calls Tryd.prog 86 #[.agg (cpC x)] w fun e w' => e = .returned (.bool (okCpR x)) ∧ Below w.heap.size w w' := by
  obtain ⟨h, o⟩ := x
  have HA0 := Blk.new w 110 (cpC ⟨h, o⟩)
  have B0 : Below w.heap.size w (w.alloc (.cells (cpC ⟨h, o⟩) 110)) := (Below.refl _ _).alloc (Nat.le_refl _) _
  have H1 := Lib.hid (fun W => withinRf_any h 0 65535 W)
  have H2 := Lib.hid (fun W => withinRf_any o 0 65535 W)
  unfold okCpR
  dsimp only
  cases hx1 : wthn h 0 65535 with
  | false =>
    rw [hx1] at H1
    simp only [Bool.false_and]
    clear hx1
    go_enter Tryd.func86, Tryd.ntmps86
    go_upto_region 1 with (fail)
    generalize (w.alloc (.cells (cpC ⟨h, o⟩) 110)) = w0 at *
    have c0 := HA0.cv 0 (.int .i64 h) rfl
    go_wp2_with fail
    refine (H1.out _).mono ?_
    rintro e w1 ⟨rfl, k1⟩
    have hb1 : (!false) = true := rfl
    go_wp2
    go_ret
    exact ⟨rfl, B0.trans (k1.mono B0.size)⟩
  | true =>
    cases hx2 : wthn o 0 65535 with
    | false =>
      rw [hx1] at H1
      rw [hx2] at H2
      simp only [Bool.false_and, Bool.true_and]
      clear hx1 hx2
      go_enter Tryd.func86, Tryd.ntmps86
      go_upto_region 1 with (fail)
      generalize (w.alloc (.cells (cpC ⟨h, o⟩) 110)) = w0 at *
      have c0 := HA0.cv 0 (.int .i64 h) rfl
      have hb1 : (!false) = true := rfl
      have hb2 : (!true) = false := rfl
      go_wp2_with fail
      refine (H1.out _).mono ?_
      rintro e w1 ⟨rfl, k1⟩
      have HA1 := HA0.kept k1
      have B1 := B0.trans (k1.mono B0.size)
      clear HA0 B0 c0 k1
      have c1 := HA1.cv 1 (.int .i64 o) rfl
      go_wp2_with fail
      refine (H2.out _).mono ?_
      rintro e w2 ⟨rfl, k2⟩
      go_wp2
      go_ret
      exact ⟨rfl, B1.trans (k2.mono B1.size)⟩
    | true =>
      rw [hx1] at H1
      rw [hx2] at H2
      simp only [Bool.true_and]
      simp only [wthn, Bool.and_eq_true, decide_eq_true_eq] at hx1 hx2
      obtain ⟨H, rfl⟩ := Int.eq_ofNat_of_zero_le hx1.1
      obtain ⟨O, rfl⟩ := Int.eq_ofNat_of_zero_le hx2.1
      have hH : H < 65536 := by omega
      have hO : O < 65536 := by omega
      have hgoal : Hid (∀ r : Bool, (r = true ↔ ∀ j, j < 16 → capB H O j = false) → ((List.range 16).all fun j => !capB ((H : Nat) : Int).toNat ((O : Nat) : Int).toNat j) = r) := fun r hr => by
        rw [Int.toNat_natCast, Int.toNat_natCast]
        cases r with
        | true =>
          rw [List.all_eq_true]
          intro j hj
          rw [hr.1 rfl j (List.mem_range.1 hj)]
          rfl
        | false =>
          rw [Bool.eq_false_iff]
          intro q
          rw [List.all_eq_true] at q
          have := hr.2 fun j hj => by
            have := q j (List.mem_range.2 hj)
            simpa using this
          cases this
      generalize ((List.range 16).all fun j => !capB ((H : Nat) : Int).toNat ((O : Nat) : Int).toNat j) = R at *
      clear hx1 hx2
      go_enter Tryd.func86, Tryd.ntmps86
      go_upto_region 1 with (fail)
      generalize (w.alloc (.cells (cpC ⟨(H : Int), (O : Int)⟩) 110)) = w0 at *
      have c0 := HA0.cv 0 (.int .i64 H) rfl
      have hb2 : (!true) = false := rfl
      go_wp2_with fail
      refine (H1.out _).mono ?_
      rintro e w1 ⟨rfl, k1⟩
      have HA1 := HA0.kept k1
      have B1 := B0.trans (k1.mono B0.size)
      clear HA0 B0 c0 k1
      have c1 := HA1.cv 1 (.int .i64 O) rfl
      go_wp2_with fail
      refine (H2.out _).mono ?_
      rintro e w2 ⟨rfl, k2⟩
      have HA2 := HA1.kept k2
      have B2 := B1.trans (k2.mono B1.size)
      clear HA1 B1 c1 k2 H1 H2
      go_wp2_with fail
      go_loopw [3] (fun i wr => ∃ j : Nat, j ≤ 16 ∧ i = .int .i64 ((2 ^ j : Nat) : Int) ∧ wr = w2 ∧ ∀ k, k < j → capB H O k = false) (fun i _ => 65536 * 2 - (intOf i).toNat)
      case atStart => exact ⟨0, by omega, rfl, rfl, fun k hk => by omega⟩
      case round =>
        obtain ⟨j, hj, rfl, hw, hall⟩ := hrel
        replace hw := hw.symm
        subst hw
        by_cases hj16 : j = 16
        · subst hj16
          have e16 : ((2 ^ 16 : Nat) : Int) = 65536 := by decide
          rw [e16]
          obtain rfl : R = true := hgoal.out true ⟨fun _ => hall, fun _ => rfl⟩
          clear hall hgoal
          go_wp2
          go_ret
          exact ⟨rfl, B2⟩
        · have hjl : j < 16 := by omega
          obtain ⟨X, hX⟩ : ∃ X, X = 2 ^ j := ⟨_, rfl⟩
          have hXp : 0 < X := by rw [hX]; exact Nat.two_pow_pos j
          have hXl : X ≤ 32768 := by
            rw [hX]
            exact Nat.le_trans (Nat.pow_le_pow_right (by decide) (show j ≤ 15 by omega)) (by decide)
          have hX2 : Hid (X * 2 = 2 ^ (j + 1)) := by show _ = _; rw [hX, Nat.pow_succ]
          have q1 : (X : Int) < 65536 := by omega
          have q2 : decide ((X : Int) < 65536) = true := decide_eq_true q1
          have q3 : ¬ (X : Int) = 0 := by omega
          have q4 : IntKind.i64.wrap ((X : Int) * 2) = ((X * 2 : Nat) : Int) := by rw [IntKind.wrap_i64] <;> omega
          have hcb : capB H O j = ((O / X % 2 == 1) && (H / X % 2 == 0)) := by unfold capB; rw [← hX]
          rw [← hX]
          have hOX : O / X ≤ O := Nat.div_le_self _ _
          have hHX : H / X ≤ H := Nat.div_le_self _ _
          have t1 : Int.tdiv (O : Int) (X : Int) = ((O / X : Nat) : Int) := rfl
          have t2 : Int.tdiv (H : Int) (X : Int) = ((H / X : Nat) : Int) := rfl
          have u1 : (O : Int) / (X : Int) = ((O / X : Nat) : Int) := rfl
          have u2 : (H : Int) / (X : Int) = ((H / X : Nat) : Int) := rfl
          generalize O / X = a at *
          generalize H / X = b at *
          have v1 : IntKind.i64.wrap (a : Int) = (a : Int) := by rw [IntKind.wrap_i64] <;> omega
          have v2 : IntKind.i64.wrap (b : Int) = (b : Int) := by rw [IntKind.wrap_i64] <;> omega
          have c0 := HA2.cv 0 (.int .i64 H) rfl
          have c1 := HA2.cv 1 (.int .i64 O) rfl
          clear hX
          by_cases g1 : a % 2 = 1
          · have s1 : Int.tmod (a : Int) 2 = 1 := by rw [Int.tmod_eq_emod_of_nonneg (by omega)]; omega
            have s1' : (a : Int) % 2 = 1 := by omega
            by_cases g2 : b % 2 = 0
            · have s2 : Int.tmod (b : Int) 2 = 0 := by rw [Int.tmod_eq_emod_of_nonneg (by omega)]; omega
              have s2' : (b : Int) % 2 = 0 := by omega
              obtain rfl : R = false := hgoal.out false ⟨fun q => absurd q (by decide), fun q => by
                have := q j hjl
                rw [hcb, g1, g2] at this
                cases this⟩
              clear hall hgoal hcb
              go_wp2
              go_ret
              exact ⟨rfl, B2⟩
            · have s2 : Int.tmod (b : Int) 2 = 1 := by rw [Int.tmod_eq_emod_of_nonneg (by omega)]; omega
              have s2' : (b : Int) % 2 = 1 := by omega
              have hno : capB H O j = false := by rw [hcb]; simp [g2]
              clear hcb
              have hall2 : Hid (∀ k, k < j + 1 → capB H O k = false) := fun k hk => by
                rcases Nat.lt_or_ge k j with h' | h'
                · exact hall k h'
                · obtain rfl : k = j := by omega
                  exact hno
              clear hall hno hgoal
              go_wp2
              go_roundw
              case rel => exact ⟨j + 1, by omega, by rw [← hX2.out]; first | rfl | simp, trivial, hall2.out⟩
              case measure => simp [intOf]; omega
          · have s1 : Int.tmod (a : Int) 2 = 0 := by rw [Int.tmod_eq_emod_of_nonneg (by omega)]; omega
            have s1' : (a : Int) % 2 = 0 := by omega
            have hno : capB H O j = false := by rw [hcb]; simp [g1]
            clear hcb
            have hall2 : Hid (∀ k, k < j + 1 → capB H O k = false) := fun k hk => by
              rcases Nat.lt_or_ge k j with h' | h'
              · exact hall k h'
              · obtain rfl : k = j := by omega
                exact hno
            clear hall hno hgoal
            go_wp2
            go_roundw
            case rel => exact ⟨j + 1, by omega, by rw [← hX2.out]; first | rfl | simp, trivial, hall2.out⟩
            case measure => simp [intOf]; omega

end Go.Proofs.YticjmjoiggnblaaDoor
