/- switchyardkeep.LearnForgets. -/
import Derived.Test.YtgeiiengieonfaaLearned
namespace Go.Proofs.Ytgeiiengieonfaa
open Go.RowKit
open Go.Shelf
attribute [local go_sem ↓] Go.wp_at_zero Go.wp_at_succ
set_option linter.unusedSimpArgs false
set_option linter.unusedVariables false
set_option maxRecDepth 100000

namespace learnForgets

set_option maxHeartbeats 6400000 in
theorem walk (a : Option Addr) (c : Nat) (l : List Le) (port vid b : Int) (w : World) (h : LeIn w a l) (hlen : l.length ≤ maxLen) :
    Calls Try.prog 5 #[.slice a l.length c, .int .i64 port, .int .i64 vid, .int .i64 b] w fun e w' => e = .returned (.bool true) ∧ Below w.heap.size w w' := by
  have hll : l.length ≤ 9223372036854775807 := hlen
  by_cases hl : 100 < l.length
  · have d0 : decide ((100 : Int) < (l.length : Int)) = true := decide_eq_true (by omega)
    clear hl
    go_enter Try.func5, Try.ntmps5
    go_wp2_with (first | (go_at_call 6; refine (learned_any _).mono ?_; rintro e w1 ⟨rfl, k1⟩))
    go_ret
    exact ⟨rfl, k1⟩
  have d0 : decide ((100 : Int) < (l.length : Int)) = false := decide_eq_false (by omega)
  obtain ⟨hK, hn0, hn1⟩ := school_kept l (by omega)
  have HS := Lib.hid (fun W (h : LeIn W a l) => school_any a c l W h (by omega))
  have p1 := pickN_lt port 8 (by decide)
  have p2 := pickN_lt vid 3 (by decide)
  have HP1 : Hid (∀ w, Calls Try.prog 8 #[.int .i64 port, .int .i64 8] w fun e w' => e = .returned (.int .i64 (pickN port 8)) ∧ w = w') := fun w => pick_val port 8 w (by decide) (by decide)
  have HP2 : Hid (∀ w, Calls Try.prog 8 #[.int .i64 vid, .int .i64 3] w fun e w' => e = .returned (.int .i64 (pickN vid 3)) ∧ w = w') := fun w => pick_val vid 3 w (by decide) (by decide)
  have HA := Lib.hid (fun w => address_any b w)
  have hF := look_forget (age := 100) (vid := 1 + (pickN vid 3 : Nat)) (a := adF b) (port := (pickN port 8 : Nat)) hK (by omega)
  clear hK
  generalize (schoolM l).1 = E at *
  generalize (schoolM l).2 = T at *
  generalize hPp : ((pickN port 8 : Nat) : Int) = P at *
  have hw2 : IntKind.i64.wrap (1 + ((pickN vid 3 : Nat) : Int)) = 1 + ((pickN vid 3 : Nat) : Int) := by rw [IntKind.wrap_i64] <;> omega
  have K1 : Hid (∀ t W, Tab W t t 100 T E → Calls Try.prog 9 #[.pointer (some ⟨t, 0, none⟩), .int .i64 (1 + ((pickN vid 3 : Nat) : Int)), .agg (c6 (adF b)), .int .i64 T] W fun e w' => e = .returned (.int .i64 (lookM 100 E (1 + ((pickN vid 3 : Nat) : Int)) (adF b) T)) ∧ Below W.heap.size W w') := fun t W h => lnLook_any t t 100 T E _ (adF b) T W h
  have K2 : Hid (∀ t W, Tab W t t 100 T (forgetM E P) → Calls Try.prog 9 #[.pointer (some ⟨t, 0, none⟩), .int .i64 (1 + ((pickN vid 3 : Nat) : Int)), .agg (c6 (adF b)), .int .i64 T] W fun e w' => e = .returned (.int .i64 (lookM 100 (forgetM E P) (1 + ((pickN vid 3 : Nat) : Int)) (adF b) T)) ∧ Below W.heap.size W w') := fun t W h => lnLook_any t t 100 T (forgetM E P) _ (adF b) T W h
  generalize lookM 100 E (1 + ((pickN vid 3 : Nat) : Int)) (adF b) T = x at *
  generalize lookM 100 (forgetM E P) (1 + ((pickN vid 3 : Nat) : Int)) (adF b) T = y at *
  have hP0 : 0 ≤ P := by omega
  generalize adF b = f at *
  clear hPp
  by_cases hx : x = P
  · subst hx
    have hy : y = -1 := by simpa using hF
    subst hy
    have e1 : ((-1 : Int) == x) = false := beq_eq_false_iff_ne.2 (by omega)
    clear hF p1 p2 hn0 hn1 hP0
    go_enter Try.func5, Try.ntmps5
    go_upto_region 8 with (first | (go_at_call 6; refine (learned_any _).mono ?_; rintro e w1 ⟨rfl, k1⟩) | (go_at_call 7; refine (HS.out _ (h.below k1)).mono ?_; rintro e w2 ⟨rfl, HT, k2⟩))
    have BW : Below w.heap.size w w2 := k1.trans (k2.mono k1.size)
    have HZ := k2.size
    have HB0 := k1.size
    clear k1 k2 h HS
    generalize w1.heap.size = tb at *
    go_wp2_with (first
        | (go_at_call 8; (first | (with_reducible refine (HP1.out _).mono ?_) | (with_reducible refine (HP2.out _).mono ?_)); rintro e w9 ⟨rfl, rfl⟩)
        | (go_at_call 10; (first | (with_reducible refine (HA.out _).mono ?_)); rintro e w9 ⟨rfl, kk⟩; replace HT := HT.kept kk; replace BW := BW.trans (kk.mono BW.size); replace HZ := Nat.le_trans HZ kk.size; clear kk)
        | (go_at_call 9; (first | (with_reducible refine (K1.out _ _ HT).mono ?_) | (with_reducible refine (K2.out _ _ HT).mono ?_)); rintro e w9 ⟨rfl, kk⟩; replace HT := HT.kept kk; replace BW := BW.trans (kk.mono BW.size); replace HZ := Nat.le_trans HZ kk.size; clear kk)
        | (go_at_call 13; refine (forget_any tb tb 100 T E x _ HT HZ).mono ?_; rintro e w9 ⟨rfl, HT9, hx9⟩; replace BW := BW.trans ((hx9.below HZ).mono HB0); replace HZ := Nat.le_trans HZ hx9.size; clear HT hx9; have HT := HT9; clear HT9))
    go_ret
    exact ⟨rfl, BW⟩
  · have e0 : (x == P) = false := beq_eq_false_iff_ne.2 hx
    have e1 : (x != P) = true := by simp [bne, e0]
    have hy : y = x := by simpa [e0] using hF
    subst hy
    clear hF p1 p2 hn0 hn1 hx
    go_enter Try.func5, Try.ntmps5
    go_upto_region 8 with (first | (go_at_call 6; refine (learned_any _).mono ?_; rintro e w1 ⟨rfl, k1⟩) | (go_at_call 7; refine (HS.out _ (h.below k1)).mono ?_; rintro e w2 ⟨rfl, HT, k2⟩))
    have BW : Below w.heap.size w w2 := k1.trans (k2.mono k1.size)
    have HZ := k2.size
    have HB0 := k1.size
    clear k1 k2 h HS
    generalize w1.heap.size = tb at *
    go_wp2_with (first
        | (go_at_call 8; (first | (with_reducible refine (HP1.out _).mono ?_) | (with_reducible refine (HP2.out _).mono ?_)); rintro e w9 ⟨rfl, rfl⟩)
        | (go_at_call 10; (first | (with_reducible refine (HA.out _).mono ?_)); rintro e w9 ⟨rfl, kk⟩; replace HT := HT.kept kk; replace BW := BW.trans (kk.mono BW.size); replace HZ := Nat.le_trans HZ kk.size; clear kk)
        | (go_at_call 9; (first | (with_reducible refine (K1.out _ _ HT).mono ?_) | (with_reducible refine (K2.out _ _ HT).mono ?_)); rintro e w9 ⟨rfl, kk⟩; replace HT := HT.kept kk; replace BW := BW.trans (kk.mono BW.size); replace HZ := Nat.le_trans HZ kk.size; clear kk)
        | (go_at_call 13; refine (forget_any tb tb 100 T E P _ HT HZ).mono ?_; rintro e w9 ⟨rfl, HT9, hx9⟩; replace BW := BW.trans ((hx9.below HZ).mono HB0); replace HZ := Nat.le_trans HZ hx9.size; clear HT hx9; have HT := HT9; clear HT9))
    go_ret
    exact ⟨rfl, BW⟩
end learnForgets

end Go.Proofs.Ytgeiiengieonfaa
