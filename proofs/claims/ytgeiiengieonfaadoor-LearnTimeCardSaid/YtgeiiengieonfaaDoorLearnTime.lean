/- switchyardkeep.LearnTime. -/
import Derived.Test.YtgeiiengieonfaaDoorLearned
import Derived.Test.YtgeiiengieonfaaDoorPlace
namespace Go.Proofs.YtgeiiengieonfaaDoor
open Go.RowKit
open Go.Shelf
attribute [local go_sem ↓] Go.wp_at_zero Go.wp_at_succ
set_option linter.unusedSimpArgs false
set_option linter.unusedVariables false
set_option maxRecDepth 100000

namespace learnTime

set_option maxHeartbeats 6400000 in
theorem walk (a : Option Addr) (c : Nat) (l : List Le) (back vid za zo : Int) (w : World) (h : LeIn w a l) (hlen : l.length ≤ maxLen) (hE : HasErr w) :
    Calls Tryd.prog 3 #[.slice a l.length c, .int .i64 back, .int .i64 vid, .int .i64 za, .int .i64 zo] w fun e w' => e = .returned (.bool true) ∧ Below w.heap.size w w' := by
  have hll : l.length ≤ 9223372036854775807 := hlen
  by_cases hl : 100 < l.length
  · have d0 : decide ((100 : Int) < (l.length : Int)) = true := decide_eq_true (by omega)
    clear hl
    go_enter Tryd.func3, Tryd.ntmps3
    go_wp2_with (first | (go_at_call 5; refine (learned_any _).mono ?_; rintro e w1 ⟨rfl, k1⟩))
    go_ret
    exact ⟨rfl, k1⟩
  have d0 : decide ((100 : Int) < (l.length : Int)) = false := decide_eq_false (by omega)
  obtain ⟨hK, hn0, hn1⟩ := school_kept l (by omega)
  have HS := Lib.hid (fun W (h : LeIn W a l) => school_any a c l W h (by omega))
  have p1 := pickN_lt back 50 (by decide)
  have p2 := pickN_lt vid 3 (by decide)
  have HP1 : Hid (∀ w, Calls Tryd.prog 7 #[.int .i64 back, .int .i64 50] w fun e w' => e = .returned (.int .i64 (pickN back 50)) ∧ w = w') := fun w => pick_val back 50 w (by decide) (by decide)
  have HP2 : Hid (∀ w, Calls Tryd.prog 7 #[.int .i64 vid, .int .i64 3] w fun e w' => e = .returned (.int .i64 (pickN vid 3)) ∧ w = w') := fun w => pick_val vid 3 w (by decide) (by decide)
  have HAo := Lib.hid (fun w => address_any zo w)
  have HAa := Lib.hid (fun w => address_any za w)
  have hE10 : 1 + ((pickN back 50 : Nat) : Int) ≤ (schoolM l).2 → learnErr (schoolM l).2 (1 + ((pickN vid 3 : Nat) : Int)) (adF za) 1 ((schoolM l).2 - (1 + ((pickN back 50 : Nat) : Int))) = 10 := by
    intro hle
    have := adF_even za
    unfold learnErr
    rw [if_neg (by omega), if_neg (by omega), if_pos (by omega)]
  have hfa := adF_lt za
  have hKok := hK.ok
  clear hK
  generalize (schoolM l).1 = E at *
  generalize (schoolM l).2 = T at *
  have HLn : Hid (1 + ((pickN back 50 : Nat) : Int) ≤ T → ∀ t W, Tab W t t 100 T E → t ≤ W.heap.size → Calls Tryd.prog 10 #[.pointer (some ⟨t, 0, none⟩), .int .i64 (1 + ((pickN vid 3 : Nat) : Int)), .agg (c6 (adF za)), .int .i64 1, .int .i64 (T - (1 + ((pickN back 50 : Nat) : Int)))] W fun e w' => e = .returned (.iface 35 (.int .i64 10)) ∧ Tab w' t t 100 T E ∧ Lx t LT W w') := fun hle t W h hz => by
    refine (learn_any t t 100 T E (1 + ((pickN vid 3 : Nat) : Int)) (adF za) 1 (T - (1 + ((pickN back 50 : Nat) : Int))) W h hfa hz).mono ?_
    rintro e w' ⟨rfl, -, h2, h3⟩
    have h0 := hE10 hle
    exact ⟨by rw [h0]; rfl, h2 (by rw [h0]; decide), h3⟩
  clear hE10 hfa
  have hw1 : IntKind.i64.wrap (1 + ((pickN back 50 : Nat) : Int)) = 1 + ((pickN back 50 : Nat) : Int) := by rw [IntKind.wrap_i64] <;> omega
  have hw2 : IntKind.i64.wrap (1 + ((pickN vid 3 : Nat) : Int)) = (1 + ((pickN vid 3 : Nat) : Int)) := by rw [IntKind.wrap_i64] <;> omega
  have hw3 : IntKind.i64.wrap (T - (1 + ((pickN back 50 : Nat) : Int))) = T - (1 + ((pickN back 50 : Nat) : Int)) := by rw [IntKind.wrap_i64] <;> omega
  have K1 : Hid (∀ t W, Tab W t t 100 T E → Calls Tryd.prog 8 #[.pointer (some ⟨t, 0, none⟩), .int .i64 (1 + ((pickN vid 3 : Nat) : Int)), .agg (c6 (adF zo)), .int .i64 T] W fun e w' => e = .returned (.int .i64 (lookM 100 E (1 + ((pickN vid 3 : Nat) : Int)) (adF zo) T)) ∧ Below W.heap.size W w') := fun t W h => lnLook_any t t 100 T E _ (adF zo) T W h
  generalize lookM 100 E (1 + ((pickN vid 3 : Nat) : Int)) (adF zo) T = was at *
  generalize adF zo = fo at *
  generalize adF za = fa at *
  clear hn0 hn1 p1 p2 hKok
  by_cases hb : T < 1 + ((pickN back 50 : Nat) : Int)
  · have db : decide (T < 1 + ((pickN back 50 : Nat) : Int)) = true := decide_eq_true hb
    clear hb HLn
    go_enter Tryd.func3, Tryd.ntmps3
    go_upto_region 8 with (first | (go_at_call 5; refine (learned_any _).mono ?_; rintro e w1 ⟨rfl, k1⟩) | (go_at_call 6; refine (HS.out _ (h.below k1)).mono ?_; rintro e w2 ⟨rfl, HT, k2⟩))
    have BW : Below w.heap.size w w2 := k1.trans (k2.mono k1.size)
    have HZ := k2.size
    have HB0 := k1.size
    clear k1 k2 h HS
    generalize w1.heap.size = tb at *
    go_wp2_with (first
        | (go_at_call 7; (first | (with_reducible refine (HP1.out _).mono ?_) | (with_reducible refine (HP2.out _).mono ?_)); rintro e w9 ⟨rfl, rfl⟩))
    go_ret
    exact ⟨rfl, BW⟩
  have db : decide (T < 1 + ((pickN back 50 : Nat) : Int)) = false := decide_eq_false hb
  have HLn2 := Lib.hid (HLn.out (by omega))
  clear hb HLn
  go_enter Tryd.func3, Tryd.ntmps3
  go_upto_region 8 with (first | (go_at_call 5; refine (learned_any _).mono ?_; rintro e w1 ⟨rfl, k1⟩) | (go_at_call 6; refine (HS.out _ (h.below k1)).mono ?_; rintro e w2 ⟨rfl, HT, k2⟩))
  have BW : Below w.heap.size w w2 := k1.trans (k2.mono k1.size)
  have HZ := k2.size
  have HB0 := k1.size
  clear k1 k2 h HS
  generalize w1.heap.size = tb at *
  go_wp2_with (first
      | go_big_skip
      | (go_at_call 7; (first | (with_reducible refine (HP1.out _).mono ?_) | (with_reducible refine (HP2.out _).mono ?_)); rintro e w9 ⟨rfl, rfl⟩)
      | (go_at_call 9; (first | (with_reducible refine (HAo.out _).mono ?_) | (with_reducible refine (HAa.out _).mono ?_)); rintro e w9 ⟨rfl, kk⟩; replace HT := HT.kept kk; replace BW := BW.trans (kk.mono BW.size); replace HZ := Nat.le_trans HZ kk.size; clear kk)
      | (go_at_call 8; (first | (with_reducible refine (K1.out _ _ HT).mono ?_)); rintro e w9 ⟨rfl, kk⟩; replace HT := HT.kept kk; replace BW := BW.trans (kk.mono BW.size); replace HZ := Nat.le_trans HZ kk.size; clear kk)
      | (go_at_call 10; (with_reducible refine (HLn2.out _ _ HT HZ).mono ?_); rintro e w9 ⟨rfl, HT9, hx9⟩; replace BW := BW.trans ((hx9.below HZ).mono HB0); replace HZ := Nat.le_trans HZ hx9.size; clear HT hx9; have HT := HT9; clear HT9)
      | (go_at_call 11; refine (tell_errno 10 _ (hE.below BW)).mono ?_; rintro e w9 ⟨rfl, kk⟩; replace HT := HT.kept kk; replace BW := BW.trans (kk.mono BW.size); replace HZ := Nat.le_trans HZ kk.size; clear kk))
  go_ret
  exact ⟨rfl, BW⟩
end learnTime

end Go.Proofs.YtgeiiengieonfaaDoor
