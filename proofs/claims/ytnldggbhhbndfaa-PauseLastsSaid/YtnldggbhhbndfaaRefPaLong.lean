/- The reference's PauseLong at every message that may be; switchyardlaw.PauseLasts. -/
import Derived.Test.YtnldggbhhbndfaaBlk
import Derived.Test.YtnldggbhhbndfaaPaLong
import Derived.Test.YtnldggbhhbndfaaRefPaRight
namespace Go.Proofs.Ytnldggbhhbndfaa
open Go.RowKit
attribute [local go_sem ↓] Go.wp_at_zero Go.wp_at_succ
set_option linter.unusedSimpArgs false
set_option linter.unusedVariables false
set_option maxRecDepth 100000

theorem refLong_out (p : Pa) (c : Int) (w : World) (h : c < 0 ∨ 8 ≤ c) : Calls Try.prog 6 #[.agg (paC p), .int .i64 c] w fun e w' => e = .returned (.int .i64 0) ∧ Below w.heap.size w w' := by
  have HA := Blk.new w 24 (paC p)
  have B2 : Below w.heap.size w (w.alloc (.cells (paC p) 24)) := (Below.refl _ _).alloc (Nat.le_refl _) _
  go_enter Try.func6, Try.ntmps6
  go_upto_region 1 with (fail)
  generalize w.alloc (.cells (paC p) 24) = w1 at *
  go_wp2_with fail
  refine (within_no c 0 7 _ (by omega)).mono ?_
  rintro e w3 ⟨rfl, rfl⟩
  go_wp2
  go_ret
  exact ⟨rfl, B2⟩

theorem refLong_all (p : Pa) (k : Nat) (w : World) (hk : k < 8) (hp : p.pfc = false) : Calls Try.prog 6 #[.agg (paC p), .int .i64 k] w fun e w' => e = .returned (.int .i64 (p.t 0)) ∧ Below w.heap.size w w' := by
  have HA := Blk.new w 24 (paC p)
  have B2 : Below w.heap.size w (w.alloc (.cells (paC p) 24)) := (Below.refl _ _).alloc (Nat.le_refl _) _
  go_enter Try.func6, Try.ntmps6
  go_upto_region 1 with (fail)
  generalize w.alloc (.cells (paC p) 24) = w1 at *
  have c0 : w1.cell? ⟨w.heap.size, 0, none⟩ = some (.bool false) := by rw [← hp]; exact HA.cv 0 (.bool p.pfc) rfl
  have c2 := HA.cv 2 (.int .i64 (p.t 0)) rfl
  clear hp
  go_wp2_with fail
  refine (within_yes k 0 7 _ (by omega) (by omega)).mono ?_
  rintro e w3 ⟨rfl, rfl⟩
  go_wp2
  go_ret
  exact ⟨rfl, B2⟩

theorem long_prod (p : Pa) (k : Nat) (h : goodT p k) (h0 : 0 ≤ p.en) (h1 : p.en ≤ 255) : wrap64 (p.t k * (p.en / 2 ^ k).tmod 2) = if bitOf p.en k = true then p.t k else 0 := by
  have hd := div_le p.en k h0 h1
  rw [Int.tmod_eq_emod_of_nonneg hd.1]
  unfold bitOf
  obtain ⟨⟨q1, q2⟩, _⟩ := h
  have hm : (p.en / 2 ^ k) % 2 = 0 ∨ (p.en / 2 ^ k) % 2 = 1 := by omega
  rcases hm with hm | hm
  · rw [hm]
    simp [wrap64]
  · rw [hm]
    simp only [Int.mul_one, beq_self_eq_true, if_true]
    unfold wrap64
    omega

theorem refLong_bit (p : Pa) (k : Nat) (w : World) (hk : k < 8) (hp : p.pfc = true) (hg : goodT p k) (h0 : 0 ≤ p.en) (h1 : p.en ≤ 255) : Calls Try.prog 6 #[.agg (paC p), .int .i64 k] w fun e w' => e = .returned (.int .i64 (if bitOf p.en k = true then p.t k else 0)) ∧ Below w.heap.size w w' := by
  have HW := Lib.hid (long_prod p k hg h0 h1)
  rw [← HW.out]
  clear hg
  have HA := Blk.new w 24 (paC p)
  have B2 : Below w.heap.size w (w.alloc (.cells (paC p) 24)) := (Below.refl _ _).alloc (Nat.le_refl _) _
  go_enter Try.func6, Try.ntmps6
  go_upto_region 1 with (fail)
  generalize w.alloc (.cells (paC p) 24) = w1 at *
  have c0 : w1.cell? ⟨w.heap.size, 0, none⟩ = some (.bool true) := by rw [← hp]; exact HA.cv 0 (.bool p.pfc) rfl
  have c1 := HA.cv 1 (.int .i64 p.en) rfl
  have ck := HA.cv (2 + k) (.int .i64 (p.t k)) (paT_cell p k hk)
  clear hp
  go_wp2_with fail
  refine (within_yes k 0 7 _ (by omega) (by omega)).mono ?_
  rintro e w3 ⟨rfl, rfl⟩
  go_wp2
  go_loop [5, 18] (fun x i => ∃ j : Nat, j ≤ k ∧ i = .int .i64 j ∧ x = .int .i64 (p.en / 2 ^ j)) (fun _ i => k - (intOf i).toNat)
  case atStart => exact ⟨0, by omega, rfl, by simp⟩
  case round =>
    obtain ⟨j, hj, rfl, rfl⟩ := hrel
    by_cases hlt : j < k
    · obtain ⟨q1, q2⟩ := div_le p.en j h0 h1
      have HD : Hid (p.en / 2 ^ j / 2 = p.en / 2 ^ (j + 1)) := by
        show _ = _
        rw [Int.pow_succ, Int.ediv_ediv_of_nonneg (Int.le_of_lt (Int.pow_pos (by decide)))]
      go_wp2
      go_round
      case rel => exact ⟨j + 1, by omega, by go_num, by rw [HD.out]⟩
      case measure => simp [intOf]; omega
    · obtain rfl : j = k := by omega
      go_wp2
      go_ret
      exact ⟨rfl, B2⟩

theorem refLong_any (p : Pa) (c : Int) (w : World) (hr : paRight p = true) : Calls Try.prog 6 #[.agg (paC p), .int .i64 c] w fun e w' => e = .returned (.int .i64 (paLong p c)) ∧ Below w.heap.size w w' := by
  have hE : 0 ≤ p.en ∧ p.en ≤ 255 := by
    unfold paRight okE at hr
    simp only [Bool.and_eq_true, decide_eq_true_eq] at hr
    exact hr.2.2
  by_cases h : c < 0 ∨ 8 ≤ c
  · rw [show paLong p c = 0 by unfold paLong; rw [if_pos h]]
    exact refLong_out p c w h
  · obtain ⟨k, rfl⟩ := Int.eq_ofNat_of_zero_le (show 0 ≤ c by omega)
    have hk : k < 8 := by omega
    cases hp : p.pfc with
    | false =>
      rw [show paLong p (k : Int) = p.t 0 by unfold paLong; rw [if_neg h, if_pos hp]]
      exact refLong_all p k w hk hp
    | true =>
      rw [show paLong p (k : Int) = if bitOf p.en k = true then p.t k else 0 by unfold paLong; rw [if_neg h, if_neg (by rw [hp]; decide), Int.toNat_natCast]]
      refine refLong_bit p k w hk hp ?_ hE.1 hE.2
      by_cases hg : goodT p k
      · exact hg
      · rw [paRight_not p k hk hg] at hr; cases hr

end Go.Proofs.Ytnldggbhhbndfaa
