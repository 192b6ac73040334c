/- switchyardkeep.LearnNow. -/
import Derived.Test.YtgeiiengieonfaaLearned
namespace Go.Proofs.Ytgeiiengieonfaa
open Go.RowKit
open Go.Shelf
attribute [local go_sem ↓] Go.wp_at_zero Go.wp_at_succ
set_option linter.unusedSimpArgs false
set_option linter.unusedVariables false
set_option maxRecDepth 100000

namespace learnNow

set_option maxHeartbeats 6400000 in
theorem walk (a : Option Addr) (c : Nat) (l : List Le) (vid za port zo : Int) (w : World) (h : LeIn w a l) (hlen : l.length ≤ maxLen) :
    Calls Try.prog 3 #[.slice a l.length c, .int .i64 vid, .int .i64 za, .int .i64 port, .int .i64 zo] w fun e w' => e = .returned (.bool true) ∧ Below w.heap.size w w' := by
  have hll : l.length ≤ 9223372036854775807 := hlen
  by_cases hl : 100 < l.length
  · have d0 : decide ((100 : Int) < (l.length : Int)) = true := decide_eq_true (by omega)
    clear hl
    go_enter Try.func3, Try.ntmps3
    go_wp2_with (first | (go_at_call 6; refine (learned_any _).mono ?_; rintro e w1 ⟨rfl, k1⟩))
    go_ret
    exact ⟨rfl, k1⟩
  have d0 : decide ((100 : Int) < (l.length : Int)) = false := decide_eq_false (by omega)
  obtain ⟨hK, hn0, hn1⟩ := school_kept l (by omega)
  have HS := Lib.hid (fun W (h : LeIn W a l) => school_any a c l W h (by omega))
  have p1 := pickN_lt port 8 (by decide)
  have p2 := pickN_lt vid 3 (by decide)
  have HP1 : Hid (∀ w, Calls Try.prog 8 #[.int .i64 port, .int .i64 8] w fun e w' => e = .returned (.int .i64 (pickN port 8)) ∧ w = w') := fun w => pick_val port 8 w (by decide) (by decide)
  have HP2 : Hid (∀ w, Calls Try.prog 8 #[.int .i64 vid, .int .i64 3] w fun e w' => e = .returned (.int .i64 (pickN vid 3)) ∧ w = w') := fun w => pick_val vid 3 w (by decide) (by decide)
  have HAo := Lib.hid (fun w => address_any zo w)
  have HAa := Lib.hid (fun w => address_any za w)
  have hL1 := look_new 100 (schoolM l).1 (1 + ((pickN vid 3 : Nat) : Int)) (adF za) (pickN port 8 : Nat) (schoolM l).2 (by decide)
  have hL2 : eqN 6 (adF zo) (adF za) = false → (0 ≤ lookM 100 (schoolM l).1 (1 + ((pickN vid 3 : Nat) : Int)) (adF za) (schoolM l).2 ∨ lenM 100 (schoolM l).1 (schoolM l).2 < 32) → lookM 100 (learnM 100 (schoolM l).1 (1 + ((pickN vid 3 : Nat) : Int)) (adF za) (pickN port 8 : Nat) (schoolM l).2) (1 + ((pickN vid 3 : Nat) : Int)) (adF zo) (schoolM l).2 = lookM 100 (schoolM l).1 (1 + ((pickN vid 3 : Nat) : Int)) (adF zo) (schoolM l).2 := fun h1 h2 => look_other h1 (rest_short hK.ok h2)
  have hL3 := len_full (age := 100) (vid := (1 + ((pickN vid 3 : Nat) : Int))) (a := adF za) (port := (pickN port 8 : Nat)) (now := (schoolM l).2) hK.ok (by decide)
  have hE0 : learnErr (schoolM l).2 (1 + ((pickN vid 3 : Nat) : Int)) (adF za) (pickN port 8 : Nat) (schoolM l).2 = 0 := by
    have := adF_even za
    unfold learnErr
    rw [if_neg (by omega), if_neg (by omega), if_neg (by omega)]
  have hfa := adF_lt za
  clear hK
  generalize (schoolM l).1 = E at *
  generalize (schoolM l).2 = T at *
  have HLn : Hid (∀ t W, Tab W t t 100 T E → t ≤ W.heap.size → Calls Try.prog 12 #[.pointer (some ⟨t, 0, none⟩), .int .i64 (1 + ((pickN vid 3 : Nat) : Int)), .agg (c6 (adF za)), .int .i64 (pickN port 8 : Nat), .int .i64 T] W fun e w' => e = .returned .nilIface ∧ Tab w' t t 100 T (learnM 100 E (1 + ((pickN vid 3 : Nat) : Int)) (adF za) (pickN port 8 : Nat) T) ∧ Lx t LT W w') := fun t W h hz => by
    refine (learn_any t t 100 T E (1 + ((pickN vid 3 : Nat) : Int)) (adF za) (pickN port 8 : Nat) T W h hfa hz).mono ?_
    rintro e w' ⟨rfl, h1, -, h3⟩
    exact ⟨by rw [hE0]; rfl, h1 hE0, h3⟩
  clear hE0 hfa
  generalize hE2 : learnM 100 E (1 + ((pickN vid 3 : Nat) : Int)) (adF za) (pickN port 8 : Nat) T = E2 at *
  have hw2 : IntKind.i64.wrap (1 + ((pickN vid 3 : Nat) : Int)) = (1 + ((pickN vid 3 : Nat) : Int)) := by rw [IntKind.wrap_i64] <;> omega
  have K1 : Hid (∀ t W, Tab W t t 100 T E → Calls Try.prog 9 #[.pointer (some ⟨t, 0, none⟩), .int .i64 (1 + ((pickN vid 3 : Nat) : Int)), .agg (c6 (adF zo)), .int .i64 T] W fun e w' => e = .returned (.int .i64 (lookM 100 E (1 + ((pickN vid 3 : Nat) : Int)) (adF zo) T)) ∧ Below W.heap.size W w') := fun t W h => lnLook_any t t 100 T E _ (adF zo) T W h
  have K2 : Hid (∀ t W, Tab W t t 100 T E → Calls Try.prog 11 #[.pointer (some ⟨t, 0, none⟩), .int .i64 T] W fun e w' => e = .returned (.int .i64 (lenM 100 E T)) ∧ Below W.heap.size W w') := fun t W h => lnLen_any t t 100 T E T W h
  have K3 : Hid (∀ t W, Tab W t t 100 T E → Calls Try.prog 9 #[.pointer (some ⟨t, 0, none⟩), .int .i64 (1 + ((pickN vid 3 : Nat) : Int)), .agg (c6 (adF za)), .int .i64 T] W fun e w' => e = .returned (.int .i64 (lookM 100 E (1 + ((pickN vid 3 : Nat) : Int)) (adF za) T)) ∧ Below W.heap.size W w') := fun t W h => lnLook_any t t 100 T E _ (adF za) T W h
  have K4 : Hid (∀ t W, Tab W t t 100 T E2 → Calls Try.prog 9 #[.pointer (some ⟨t, 0, none⟩), .int .i64 (1 + ((pickN vid 3 : Nat) : Int)), .agg (c6 (adF za)), .int .i64 T] W fun e w' => e = .returned (.int .i64 (pickN port 8 : Nat)) ∧ Below W.heap.size W w') := fun t W h => by have := lnLook_any t t 100 T E2 (1 + ((pickN vid 3 : Nat) : Int)) (adF za) T W h; rw [hL1] at this; exact this
  have K5 : Hid (∀ t W, Tab W t t 100 T E2 → Calls Try.prog 9 #[.pointer (some ⟨t, 0, none⟩), .int .i64 (1 + ((pickN vid 3 : Nat) : Int)), .agg (c6 (adF zo)), .int .i64 T] W fun e w' => e = .returned (.int .i64 (lookM 100 E2 (1 + ((pickN vid 3 : Nat) : Int)) (adF zo) T)) ∧ Below W.heap.size W w') := fun t W h => lnLook_any t t 100 T E2 _ (adF zo) T W h
  have K6 : Hid (∀ t W, Tab W t t 100 T E2 → Calls Try.prog 11 #[.pointer (some ⟨t, 0, none⟩), .int .i64 T] W fun e w' => e = .returned (.int .i64 (lenM 100 E2 T)) ∧ Below W.heap.size W w') := fun t W h => lnLen_any t t 100 T E2 T W h
  have hq : ∀ W, (Op.equalIn 10000 30 (.agg (c6 (adF zo))) (.agg (c6 (adF za)))).run Try.prog W = .ok (eqN 6 (adF zo) (adF za)) W := fun W => run_eql_c6 9998 _ _ W
  clear hL1 hE2
  generalize lookM 100 E (1 + ((pickN vid 3 : Nat) : Int)) (adF zo) T = was at *
  generalize lookM 100 E (1 + ((pickN vid 3 : Nat) : Int)) (adF za) T = kx at *
  generalize lenM 100 E T = n at *
  generalize lookM 100 E2 (1 + ((pickN vid 3 : Nat) : Int)) (adF zo) T = y at *
  generalize lenM 100 E2 T = n2 at *
  generalize eqN 6 (adF zo) (adF za) = q at *
  generalize adF zo = fo at *
  generalize adF za = fa at *
  clear hn0 hn1 p1 p2
  by_cases hk : 0 ≤ kx
  · have dk : decide (0 ≤ kx) = true := decide_eq_true hk
    cases q with
    | true =>
      clear hL2 hL3
      go_enter Try.func3, Try.ntmps3
      go_upto_region 8 with (first | (go_at_call 6; refine (learned_any _).mono ?_; rintro e w1 ⟨rfl, k1⟩) | (go_at_call 7; refine (HS.out _ (h.below k1)).mono ?_; rintro e w2 ⟨rfl, HT, k2⟩))
      have BW : Below w.heap.size w w2 := k1.trans (k2.mono k1.size)
      have HZ := k2.size
      have HB0 := k1.size
      clear k1 k2 h HS
      generalize w1.heap.size = tb at *
      go_wp2_with (first
          | go_big_skip
          | (go_at_call 8; (first | (with_reducible refine (HP1.out _).mono ?_) | (with_reducible refine (HP2.out _).mono ?_)); rintro e w9 ⟨rfl, rfl⟩)
          | (go_at_call 10; (first | (with_reducible refine (HAo.out _).mono ?_) | (with_reducible refine (HAa.out _).mono ?_)); rintro e w9 ⟨rfl, kk⟩; replace HT := HT.kept kk; replace BW := BW.trans (kk.mono BW.size); replace HZ := Nat.le_trans HZ kk.size; clear kk)
          | (go_at_call 9; (first | (with_reducible refine (K1.out _ _ HT).mono ?_) | (with_reducible refine (K3.out _ _ HT).mono ?_) | (with_reducible refine (K4.out _ _ HT).mono ?_) | (with_reducible refine (K5.out _ _ HT).mono ?_)); rintro e w9 ⟨rfl, kk⟩; replace HT := HT.kept kk; replace BW := BW.trans (kk.mono BW.size); replace HZ := Nat.le_trans HZ kk.size; clear kk)
          | (go_at_call 11; (first | (with_reducible refine (K2.out _ _ HT).mono ?_) | (with_reducible refine (K6.out _ _ HT).mono ?_)); rintro e w9 ⟨rfl, kk⟩; replace HT := HT.kept kk; replace BW := BW.trans (kk.mono BW.size); replace HZ := Nat.le_trans HZ kk.size; clear kk)
          | (go_at_call 12; (with_reducible refine (HLn.out _ _ HT HZ).mono ?_); rintro e w9 ⟨rfl, HT9, hx9⟩; replace BW := BW.trans ((hx9.below HZ).mono HB0); replace HZ := Nat.le_trans HZ hx9.size; clear HT hx9; have HT := HT9; clear HT9))
      go_ret
      exact ⟨rfl, BW⟩
    | false =>
      obtain rfl := hL2 rfl (Or.inl hk)
      clear hL2 hL3
      go_enter Try.func3, Try.ntmps3
      go_upto_region 8 with (first | (go_at_call 6; refine (learned_any _).mono ?_; rintro e w1 ⟨rfl, k1⟩) | (go_at_call 7; refine (HS.out _ (h.below k1)).mono ?_; rintro e w2 ⟨rfl, HT, k2⟩))
      have BW : Below w.heap.size w w2 := k1.trans (k2.mono k1.size)
      have HZ := k2.size
      have HB0 := k1.size
      clear k1 k2 h HS
      generalize w1.heap.size = tb at *
      go_wp2_with (first
          | go_big_skip
          | (go_at_call 8; (first | (with_reducible refine (HP1.out _).mono ?_) | (with_reducible refine (HP2.out _).mono ?_)); rintro e w9 ⟨rfl, rfl⟩)
          | (go_at_call 10; (first | (with_reducible refine (HAo.out _).mono ?_) | (with_reducible refine (HAa.out _).mono ?_)); rintro e w9 ⟨rfl, kk⟩; replace HT := HT.kept kk; replace BW := BW.trans (kk.mono BW.size); replace HZ := Nat.le_trans HZ kk.size; clear kk)
          | (go_at_call 9; (first | (with_reducible refine (K1.out _ _ HT).mono ?_) | (with_reducible refine (K3.out _ _ HT).mono ?_) | (with_reducible refine (K4.out _ _ HT).mono ?_) | (with_reducible refine (K5.out _ _ HT).mono ?_)); rintro e w9 ⟨rfl, kk⟩; replace HT := HT.kept kk; replace BW := BW.trans (kk.mono BW.size); replace HZ := Nat.le_trans HZ kk.size; clear kk)
          | (go_at_call 11; (first | (with_reducible refine (K2.out _ _ HT).mono ?_) | (with_reducible refine (K6.out _ _ HT).mono ?_)); rintro e w9 ⟨rfl, kk⟩; replace HT := HT.kept kk; replace BW := BW.trans (kk.mono BW.size); replace HZ := Nat.le_trans HZ kk.size; clear kk)
          | (go_at_call 12; (with_reducible refine (HLn.out _ _ HT HZ).mono ?_); rintro e w9 ⟨rfl, HT9, hx9⟩; replace BW := BW.trans ((hx9.below HZ).mono HB0); replace HZ := Nat.le_trans HZ hx9.size; clear HT hx9; have HT := HT9; clear HT9))
      go_ret
      exact ⟨rfl, BW⟩
  have dk : decide (0 ≤ kx) = false := decide_eq_false hk
  by_cases hn : n < 32
  · have dn : decide ((n : Int) < 32) = true := decide_eq_true (by omega)
    have dn2 : decide (n < 32) = true := decide_eq_true hn
    cases q with
    | true =>
      clear hL2 hL3
      go_enter Try.func3, Try.ntmps3
      go_upto_region 8 with (first | (go_at_call 6; refine (learned_any _).mono ?_; rintro e w1 ⟨rfl, k1⟩) | (go_at_call 7; refine (HS.out _ (h.below k1)).mono ?_; rintro e w2 ⟨rfl, HT, k2⟩))
      have BW : Below w.heap.size w w2 := k1.trans (k2.mono k1.size)
      have HZ := k2.size
      have HB0 := k1.size
      clear k1 k2 h HS
      generalize w1.heap.size = tb at *
      go_wp2_with (first
          | go_big_skip
          | (go_at_call 8; (first | (with_reducible refine (HP1.out _).mono ?_) | (with_reducible refine (HP2.out _).mono ?_)); rintro e w9 ⟨rfl, rfl⟩)
          | (go_at_call 10; (first | (with_reducible refine (HAo.out _).mono ?_) | (with_reducible refine (HAa.out _).mono ?_)); rintro e w9 ⟨rfl, kk⟩; replace HT := HT.kept kk; replace BW := BW.trans (kk.mono BW.size); replace HZ := Nat.le_trans HZ kk.size; clear kk)
          | (go_at_call 9; (first | (with_reducible refine (K1.out _ _ HT).mono ?_) | (with_reducible refine (K3.out _ _ HT).mono ?_) | (with_reducible refine (K4.out _ _ HT).mono ?_) | (with_reducible refine (K5.out _ _ HT).mono ?_)); rintro e w9 ⟨rfl, kk⟩; replace HT := HT.kept kk; replace BW := BW.trans (kk.mono BW.size); replace HZ := Nat.le_trans HZ kk.size; clear kk)
          | (go_at_call 11; (first | (with_reducible refine (K2.out _ _ HT).mono ?_) | (with_reducible refine (K6.out _ _ HT).mono ?_)); rintro e w9 ⟨rfl, kk⟩; replace HT := HT.kept kk; replace BW := BW.trans (kk.mono BW.size); replace HZ := Nat.le_trans HZ kk.size; clear kk)
          | (go_at_call 12; (with_reducible refine (HLn.out _ _ HT HZ).mono ?_); rintro e w9 ⟨rfl, HT9, hx9⟩; replace BW := BW.trans ((hx9.below HZ).mono HB0); replace HZ := Nat.le_trans HZ hx9.size; clear HT hx9; have HT := HT9; clear HT9))
      go_ret
      exact ⟨rfl, BW⟩
    | false =>
      obtain rfl := hL2 rfl (Or.inr hn)
      clear hL2 hL3
      go_enter Try.func3, Try.ntmps3
      go_upto_region 8 with (first | (go_at_call 6; refine (learned_any _).mono ?_; rintro e w1 ⟨rfl, k1⟩) | (go_at_call 7; refine (HS.out _ (h.below k1)).mono ?_; rintro e w2 ⟨rfl, HT, k2⟩))
      have BW : Below w.heap.size w w2 := k1.trans (k2.mono k1.size)
      have HZ := k2.size
      have HB0 := k1.size
      clear k1 k2 h HS
      generalize w1.heap.size = tb at *
      go_wp2_with (first
          | go_big_skip
          | (go_at_call 8; (first | (with_reducible refine (HP1.out _).mono ?_) | (with_reducible refine (HP2.out _).mono ?_)); rintro e w9 ⟨rfl, rfl⟩)
          | (go_at_call 10; (first | (with_reducible refine (HAo.out _).mono ?_) | (with_reducible refine (HAa.out _).mono ?_)); rintro e w9 ⟨rfl, kk⟩; replace HT := HT.kept kk; replace BW := BW.trans (kk.mono BW.size); replace HZ := Nat.le_trans HZ kk.size; clear kk)
          | (go_at_call 9; (first | (with_reducible refine (K1.out _ _ HT).mono ?_) | (with_reducible refine (K3.out _ _ HT).mono ?_) | (with_reducible refine (K4.out _ _ HT).mono ?_) | (with_reducible refine (K5.out _ _ HT).mono ?_)); rintro e w9 ⟨rfl, kk⟩; replace HT := HT.kept kk; replace BW := BW.trans (kk.mono BW.size); replace HZ := Nat.le_trans HZ kk.size; clear kk)
          | (go_at_call 11; (first | (with_reducible refine (K2.out _ _ HT).mono ?_) | (with_reducible refine (K6.out _ _ HT).mono ?_)); rintro e w9 ⟨rfl, kk⟩; replace HT := HT.kept kk; replace BW := BW.trans (kk.mono BW.size); replace HZ := Nat.le_trans HZ kk.size; clear kk)
          | (go_at_call 12; (with_reducible refine (HLn.out _ _ HT HZ).mono ?_); rintro e w9 ⟨rfl, HT9, hx9⟩; replace BW := BW.trans ((hx9.below HZ).mono HB0); replace HZ := Nat.le_trans HZ hx9.size; clear HT hx9; have HT := HT9; clear HT9))
      go_ret
      exact ⟨rfl, BW⟩
  have dn : decide ((n : Int) < 32) = false := decide_eq_false (by omega)
  have dn2 : decide (n < 32) = false := decide_eq_false hn
  have h32 := hL3 hk hn
  subst h32
  clear hL2 hL3
  go_enter Try.func3, Try.ntmps3
  go_upto_region 8 with (first | (go_at_call 6; refine (learned_any _).mono ?_; rintro e w1 ⟨rfl, k1⟩) | (go_at_call 7; refine (HS.out _ (h.below k1)).mono ?_; rintro e w2 ⟨rfl, HT, k2⟩))
  have BW : Below w.heap.size w w2 := k1.trans (k2.mono k1.size)
  have HZ := k2.size
  have HB0 := k1.size
  clear k1 k2 h HS
  generalize w1.heap.size = tb at *
  go_wp2_with (first
      | go_big_skip
      | (go_at_call 8; (first | (with_reducible refine (HP1.out _).mono ?_) | (with_reducible refine (HP2.out _).mono ?_)); rintro e w9 ⟨rfl, rfl⟩)
      | (go_at_call 10; (first | (with_reducible refine (HAo.out _).mono ?_) | (with_reducible refine (HAa.out _).mono ?_)); rintro e w9 ⟨rfl, kk⟩; replace HT := HT.kept kk; replace BW := BW.trans (kk.mono BW.size); replace HZ := Nat.le_trans HZ kk.size; clear kk)
      | (go_at_call 9; (first | (with_reducible refine (K1.out _ _ HT).mono ?_) | (with_reducible refine (K3.out _ _ HT).mono ?_) | (with_reducible refine (K4.out _ _ HT).mono ?_) | (with_reducible refine (K5.out _ _ HT).mono ?_)); rintro e w9 ⟨rfl, kk⟩; replace HT := HT.kept kk; replace BW := BW.trans (kk.mono BW.size); replace HZ := Nat.le_trans HZ kk.size; clear kk)
      | (go_at_call 11; (first | (with_reducible refine (K2.out _ _ HT).mono ?_) | (with_reducible refine (K6.out _ _ HT).mono ?_)); rintro e w9 ⟨rfl, kk⟩; replace HT := HT.kept kk; replace BW := BW.trans (kk.mono BW.size); replace HZ := Nat.le_trans HZ kk.size; clear kk)
      | (go_at_call 12; (with_reducible refine (HLn.out _ _ HT HZ).mono ?_); rintro e w9 ⟨rfl, HT9, hx9⟩; replace BW := BW.trans ((hx9.below HZ).mono HB0); replace HZ := Nat.le_trans HZ hx9.size; clear HT hx9; have HT := HT9; clear HT9))
  go_ret
  exact ⟨rfl, BW⟩
end learnNow

end Go.Proofs.Ytgeiiengieonfaa
