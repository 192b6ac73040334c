/- switchyardkeep.LearnBound. -/
import Derived.Test.YtgeiiengieonfaaLearned
namespace Go.Proofs.Ytgeiiengieonfaa
open Go.RowKit
open Go.Shelf
attribute [local go_sem ↓] Go.wp_at_zero Go.wp_at_succ
set_option linter.unusedSimpArgs false
set_option linter.unusedVariables false
set_option maxRecDepth 100000

namespace learnBound

set_option maxHeartbeats 6400000 in
theorem walk (a : Option Addr) (c : Nat) (l : List Le) (later : Int) (w : World) (h : LeIn w a l) (hlen : l.length ≤ maxLen) :
    Calls Try.prog 4 #[.slice a l.length c, .int .i64 later] w fun e w' => e = .returned (.bool true) ∧ Below w.heap.size w w' := by
  have hll : l.length ≤ 9223372036854775807 := hlen
  by_cases hl : 100 < l.length
  · have d0 : decide ((100 : Int) < (l.length : Int)) = true := decide_eq_true (by omega)
    clear hl
    go_enter Try.func4, Try.ntmps4
    go_wp2_with (first | (go_at_call 6; refine (learned_any _).mono ?_; rintro e w1 ⟨rfl, k1⟩))
    go_ret
    exact ⟨rfl, k1⟩
  have d0 : decide ((100 : Int) < (l.length : Int)) = false := decide_eq_false (by omega)
  obtain ⟨hK, hn0, hn1⟩ := school_kept l (by omega)
  have HS := Lib.hid (fun W (h : LeIn W a l) => school_any a c l W h (by omega))
  have p1 := pickN_lt later 300 (by decide)
  have HP : Hid (∀ w, Calls Try.prog 8 #[.int .i64 later, .int .i64 300] w fun e w' => e = .returned (.int .i64 (pickN later 300)) ∧ w = w') := fun w => pick_val later 300 w (by decide) (by decide)
  have m1 : ((lenM 100 (schoolM l).1 (schoolM l).2 : Nat) : Int) ≤ 32 := by have := len_le (age := 100) (now := (schoolM l).2) hK.ok; omega
  have m2 : ((lenM 100 (schoolM l).1 ((schoolM l).2 + (pickN later 300 : Nat)) : Nat) : Int) ≤ (lenM 100 (schoolM l).1 (schoolM l).2 : Nat) := by have := len_mono (age := 100) (schoolM l).1 (now := (schoolM l).2) (n2 := (schoolM l).2 + (pickN later 300 : Nat)) (by omega); omega
  have m3 : 100 < pickN later 300 → lenM 100 (schoolM l).1 ((schoolM l).2 + (pickN later 300 : Nat)) = 0 := fun q => len_old hK (by omega)
  have m4 : ((l.length : Int) == 0) = (((lenM 100 (schoolM l).1 (schoolM l).2 : Nat) : Int) == 0) := by
    by_cases hnil : l = []
    · subst hnil; rfl
    · have q1 := school_some hnil
      have q2 : l.length ≠ 0 := fun e => hnil (List.length_eq_zero_iff.1 e)
      rw [beq_eq_false_iff_ne.2 (by omega), beq_eq_false_iff_ne.2 (by omega)]
  clear hK
  generalize (schoolM l).1 = E at *
  generalize (schoolM l).2 = T at *
  generalize pickN later 300 = L at *
  have hwr : IntKind.i64.wrap (T + (L : Int)) = T + (L : Int) := by rw [IntKind.wrap_i64] <;> omega
  have K1 : Hid (∀ t W, Tab W t t 100 T E → Calls Try.prog 11 #[.pointer (some ⟨t, 0, none⟩), .int .i64 T] W fun e w' => e = .returned (.int .i64 (lenM 100 E T)) ∧ Below W.heap.size W w') := fun t W h => lnLen_any t t 100 T E T W h
  have K2 : Hid (∀ t W, Tab W t t 100 T E → Calls Try.prog 11 #[.pointer (some ⟨t, 0, none⟩), .int .i64 (T + (L : Int))] W fun e w' => e = .returned (.int .i64 (lenM 100 E (T + (L : Int)))) ∧ Below W.heap.size W w') := fun t W h => lnLen_any t t 100 T E (T + (L : Int)) W h
  generalize lenM 100 E T = n at *
  generalize lenM 100 E (T + (L : Int)) = m at *
  have d1 : decide ((n : Int) ≤ 32) = true := decide_eq_true m1
  have d2 : decide ((m : Int) ≤ (n : Int)) = true := decide_eq_true m2
  have d2n : decide (m ≤ n) = true := decide_eq_true (by omega)
  have d1n : decide (n ≤ 32) = true := decide_eq_true (by omega)
  have HWR := Lib.hid hwr
  clear m1 m2 hn0 hn1 p1
  by_cases hL : L ≤ 100
  · have d3 : decide ((L : Int) ≤ 100) = true := decide_eq_true (by omega)
    have d3n : decide (L ≤ 100) = true := decide_eq_true (by omega)
    clear hL m3
    generalize hz : ((n : Int) == 0) = z at *
    cases z with
    | true =>
      go_enter Try.func4, Try.ntmps4
      go_upto_region 8 with (first | (go_at_call 6; refine (learned_any _).mono ?_; rintro e w1 ⟨rfl, k1⟩) | (go_at_call 7; refine (HS.out _ (h.below k1)).mono ?_; rintro e w2 ⟨rfl, HT, k2⟩))
      have BW : Below w.heap.size w w2 := k1.trans (k2.mono k1.size)
      have HZ := k2.size
      have HB0 := k1.size
      clear k1 k2 h HS
      generalize w1.heap.size = tb at *
      go_wp2_with (first
          | (go_at_call 8; (first | (with_reducible refine (HP.out _).mono ?_)); rintro e w9 ⟨rfl, rfl⟩)
          | (go_at_call 11; (first | (with_reducible refine (K1.out _ _ HT).mono ?_) | (with_reducible refine (K2.out _ _ HT).mono ?_)); rintro e w9 ⟨rfl, kk⟩; replace HT := HT.kept kk; replace BW := BW.trans (kk.mono BW.size); replace HZ := Nat.le_trans HZ kk.size; clear kk))
      go_ret
      exact ⟨rfl, BW⟩
    | false =>
      go_enter Try.func4, Try.ntmps4
      go_upto_region 8 with (first | (go_at_call 6; refine (learned_any _).mono ?_; rintro e w1 ⟨rfl, k1⟩) | (go_at_call 7; refine (HS.out _ (h.below k1)).mono ?_; rintro e w2 ⟨rfl, HT, k2⟩))
      have BW : Below w.heap.size w w2 := k1.trans (k2.mono k1.size)
      have HZ := k2.size
      have HB0 := k1.size
      clear k1 k2 h HS
      generalize w1.heap.size = tb at *
      go_wp2_with (first
          | (go_at_call 8; (first | (with_reducible refine (HP.out _).mono ?_)); rintro e w9 ⟨rfl, rfl⟩)
          | (go_at_call 11; (first | (with_reducible refine (K1.out _ _ HT).mono ?_) | (with_reducible refine (K2.out _ _ HT).mono ?_)); rintro e w9 ⟨rfl, kk⟩; replace HT := HT.kept kk; replace BW := BW.trans (kk.mono BW.size); replace HZ := Nat.le_trans HZ kk.size; clear kk))
      go_ret
      exact ⟨rfl, BW⟩
  · have d3 : decide ((L : Int) ≤ 100) = false := decide_eq_false (by omega)
    have d3n : decide (L ≤ 100) = false := decide_eq_false (by omega)
    have hm : m = 0 := m3 (by omega)
    have d4 : ((m : Int) == 0) = true := by rw [hm]; rfl
    clear hL m3 hm
    generalize hz : ((n : Int) == 0) = z at *
    cases z with
    | true =>
      go_enter Try.func4, Try.ntmps4
      go_upto_region 8 with (first | (go_at_call 6; refine (learned_any _).mono ?_; rintro e w1 ⟨rfl, k1⟩) | (go_at_call 7; refine (HS.out _ (h.below k1)).mono ?_; rintro e w2 ⟨rfl, HT, k2⟩))
      have BW : Below w.heap.size w w2 := k1.trans (k2.mono k1.size)
      have HZ := k2.size
      have HB0 := k1.size
      clear k1 k2 h HS
      generalize w1.heap.size = tb at *
      go_wp2_with (first
          | (go_at_call 8; (first | (with_reducible refine (HP.out _).mono ?_)); rintro e w9 ⟨rfl, rfl⟩)
          | (go_at_call 11; (first | (with_reducible refine (K1.out _ _ HT).mono ?_) | (with_reducible refine (K2.out _ _ HT).mono ?_)); rintro e w9 ⟨rfl, kk⟩; replace HT := HT.kept kk; replace BW := BW.trans (kk.mono BW.size); replace HZ := Nat.le_trans HZ kk.size; clear kk))
      go_ret
      exact ⟨rfl, BW⟩
    | false =>
      go_enter Try.func4, Try.ntmps4
      go_upto_region 8 with (first | (go_at_call 6; refine (learned_any _).mono ?_; rintro e w1 ⟨rfl, k1⟩) | (go_at_call 7; refine (HS.out _ (h.below k1)).mono ?_; rintro e w2 ⟨rfl, HT, k2⟩))
      have BW : Below w.heap.size w w2 := k1.trans (k2.mono k1.size)
      have HZ := k2.size
      have HB0 := k1.size
      clear k1 k2 h HS
      generalize w1.heap.size = tb at *
      go_wp2_with (first
          | (go_at_call 8; (first | (with_reducible refine (HP.out _).mono ?_)); rintro e w9 ⟨rfl, rfl⟩)
          | (go_at_call 11; (first | (with_reducible refine (K1.out _ _ HT).mono ?_) | (with_reducible refine (K2.out _ _ HT).mono ?_)); rintro e w9 ⟨rfl, kk⟩; replace HT := HT.kept kk; replace BW := BW.trans (kk.mono BW.size); replace HZ := Nat.le_trans HZ kk.size; clear kk))
      go_ret
      exact ⟨rfl, BW⟩
end learnBound

end Go.Proofs.Ytgeiiengieonfaa
