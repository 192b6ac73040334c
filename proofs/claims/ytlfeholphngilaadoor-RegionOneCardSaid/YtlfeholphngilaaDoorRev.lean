/- bits.ReverseBytes32, bits.ReverseBytes64; the bytes that then stand the other way round. -/
import Derived.Test.YtlfeholphngilaaDoorProg
import Derived.Test.YtlfeholphngilaaDoorNum
import Derived.Test.YtlfeholphngilaaDoorMd5M
import Derived.WalkKit
import Derived.WalkLawsBesides
import Derived.Laws.BitsAllLaws
import Derived.Lib.Hide
namespace Go.Proofs.YtlfeholphngilaaDoor
open Go.RowKit
set_option linter.unusedVariables false

/-- A number's four bytes, the other way round. -/
def revN (X : Nat) : Nat := X % 256 * 16777216 + X / 256 % 256 * 65536 + X / 65536 % 256 * 256 + X / 16777216

theorem pair_mask (x : Nat) : x &&& 16711935 = x / 65536 % 256 * 65536 + x % 256 := by
  have h1 : x &&& 16711680 = x % 16777216 / 65536 * 65536 := nat_midmask 24 16 x (by decide)
  have h2 : x &&& 255 = x % 256 := nat_mask8 x
  rw [show (16711935 : Nat) = 16711680 ||| 255 from rfl, Nat.and_or_distrib_left, h1, h2, nat_join16 _ _ (by omega) (by omega)]
  omega

theorem shuffle (p q r t : Nat) : p + q + (r + t) = q + p + t + r := by omega

set_option maxRecDepth 100000 in
theorem rev_half (X : Nat) (h : X < 4294967296) : bits BinOp.or IntKind.u32 (bits BinOp.and IntKind.u32 ((X : Int) / 256) 16711935) (bits BinOp.and IntKind.u32 (X : Int) 16711935 * 256 % 4294967296) =
    ((X / 16777216 * 65536 + X / 65536 % 256 * 16777216 + X / 256 % 256 + X % 256 * 256 : Nat) : Int) := by
  have e1 : (X : Int) / 256 = ((X / 256 : Nat) : Int) := by omega
  have a1 : X / 256 &&& 16711935 = X / 16777216 * 65536 + X / 256 % 256 := by rw [pair_mask]; omega
  have a2 : X &&& 16711935 = X / 65536 % 256 * 65536 + X % 256 := pair_mask X
  rw [e1, show (16711935 : Int) = ((16711935 : Nat) : Int) from rfl, u32_and_nat _ _ (by omega) (by decide), u32_and_nat _ _ h (by decide), a1, a2]
  have e2 : ((X / 65536 % 256 * 65536 + X % 256 : Nat) : Int) * 256 % 4294967296 = ((X / 65536 % 256 * 16777216 + X % 256 * 256 : Nat) : Int) := by omega
  rw [e2, u32_or_nat _ _ (by omega) (by omega)]
  have b1 : X / 65536 % 256 * 16777216 + X % 256 * 256 = X / 65536 % 256 * 16777216 ||| X % 256 * 256 := (nat_join24 _ _ (by omega) (by omega)).symm
  have b2 : X / 16777216 * 65536 + X / 256 % 256 = X / 16777216 * 65536 ||| X / 256 % 256 := (nat_join16 _ _ (by omega) (by omega)).symm
  have b3 : (X / 16777216 * 65536 ||| X / 256 % 256) ||| (X / 65536 % 256 * 16777216 ||| X % 256 * 256) = (X / 65536 % 256 * 16777216 ||| X / 16777216 * 65536) ||| (X % 256 * 256 ||| X / 256 % 256) := by
    rw [Nat.or_assoc, Nat.or_assoc]
    rw [show X / 256 % 256 ||| (X / 65536 % 256 * 16777216 ||| X % 256 * 256) = X / 65536 % 256 * 16777216 ||| (X % 256 * 256 ||| X / 256 % 256) by ac_rfl]
    ac_rfl
  have c1 : X / 65536 % 256 * 16777216 ||| X / 16777216 * 65536 = X / 65536 % 256 * 16777216 + X / 16777216 * 65536 := nat_join24 _ _ (by omega) (by omega)
  have c2 : X % 256 * 256 ||| X / 256 % 256 = X % 256 * 256 + X / 256 % 256 := nat_join8 _ _ (by omega) (by omega)
  rw [b1, b2, b3, c1, c2, nat_join16 _ _ (by omega) (by omega)]
  refine congrArg (fun n : Nat => (n : Int)) ?_
  exact shuffle _ _ _ _

theorem rev_whole (X : Nat) (h : X < 4294967296) :
    bits BinOp.or IntKind.u32 (((X / 16777216 * 65536 + X / 65536 % 256 * 16777216 + X / 256 % 256 + X % 256 * 256 : Nat) : Int) / 65536) (((X / 16777216 * 65536 + X / 65536 % 256 * 16777216 + X / 256 % 256 + X % 256 * 256 : Nat) : Int) * 65536 % 4294967296) = ((revN X : Nat) : Int) := by
  have e1 : ((X / 16777216 * 65536 + X / 65536 % 256 * 16777216 + X / 256 % 256 + X % 256 * 256 : Nat) : Int) / 65536 = ((X / 65536 % 256 * 256 + X / 16777216 : Nat) : Int) := by omega
  have e2 : ((X / 16777216 * 65536 + X / 65536 % 256 * 16777216 + X / 256 % 256 + X % 256 * 256 : Nat) : Int) * 65536 % 4294967296 = ((X % 256 * 16777216 + X / 256 % 256 * 65536 : Nat) : Int) := by omega
  rw [e1, e2, u32_or_nat _ _ (by omega) (by omega), Nat.or_comm, nat_join16 _ _ (by omega) (by omega)]
  refine congrArg (fun n : Nat => (n : Int)) ?_
  unfold revN
  omega

theorem rev_any (X : Nat) (h : X < 4294967296) (w : World) :
    Calls Tryd.prog 35 #[.int .u32 X] w fun e w' => e = .returned (.int .u32 (revN X : Nat)) ∧ w = w' := by
  have H := Lib.hid h
  clear h
  go_enter Tryd.func35, Tryd.ntmps35
  go_wp2
  go_ret
  refine ⟨?_, rfl⟩
  show Ending.returned (.int .u32 (bits BinOp.or IntKind.u32 (bits BinOp.or IntKind.u32 (bits BinOp.and IntKind.u32 ((X : Int) / 256) 16711935) (bits BinOp.and IntKind.u32 (X : Int) 16711935 * 256 % 4294967296) / 65536) (bits BinOp.or IntKind.u32 (bits BinOp.and IntKind.u32 ((X : Int) / 256) 16711935) (bits BinOp.and IntKind.u32 (X : Int) 16711935 * 256 % 4294967296) * 65536 % 4294967296))) = _
  rw [rev_half X H.out, rev_whole X H.out]

theorem rev_lt (X : Nat) (h : X < 4294967296) : revN X < 4294967296 := by unfold revN; omega

theorem put_rev32 (X : Nat) (h : X < 4294967296) : putL (revN X) 4 = leN X 4 := by
  have e5 : X / 256 / 256 % 256 = X / 65536 % 256 := by rw [Nat.div_div_eq_div_mul]
  have e6 : X / 256 / 256 / 256 % 256 = X / 16777216 := by rw [Nat.div_div_eq_div_mul, Nat.div_div_eq_div_mul]; omega
  have h3 : X / 16777216 < 256 := by omega
  have h2 : X / 65536 % 256 < 256 := by omega
  have h1 : X / 256 % 256 < 256 := by omega
  have h0 : X % 256 < 256 := by omega
  have e1 : revN X / 16777216 % 256 = X % 256 := by unfold revN; generalize X % 256 = a at *; generalize X / 256 % 256 = b at *; generalize X / 65536 % 256 = c at *; generalize X / 16777216 = d at *; omega
  have e2 : revN X / 65536 % 256 = X / 256 % 256 := by unfold revN; generalize X % 256 = a at *; generalize X / 256 % 256 = b at *; generalize X / 65536 % 256 = c at *; generalize X / 16777216 = d at *; omega
  have e3 : revN X / 256 % 256 = X / 65536 % 256 := by unfold revN; generalize X % 256 = a at *; generalize X / 256 % 256 = b at *; generalize X / 65536 % 256 = c at *; generalize X / 16777216 = d at *; omega
  have e4 : revN X % 256 = X / 16777216 := by unfold revN; generalize X % 256 = a at *; generalize X / 256 % 256 = b at *; generalize X / 65536 % 256 = c at *; generalize X / 16777216 = d at *; omega
  have p3 : (256 : Nat) ^ 3 = 16777216 := by decide
  have p2 : (256 : Nat) ^ 2 = 65536 := by decide
  simp only [putL, leN, p3, p2, Nat.pow_one, Nat.pow_zero, Nat.div_one, e1, e2, e3, e4, e5, e6]

/-- Of a number of 24 bits, its eight bytes the other way round. -/
def revW (X : Nat) : Nat := X % 256 * 72057594037927936 + X / 256 % 256 * 281474976710656 + X / 65536 * 1099511627776
theorem small_mask (x m k c : Nat) (h : x < 2 ^ k) (hc : (2 ^ k - 1) &&& m = c) : x &&& m = x &&& c := by
  rw [← hc, ← Nat.and_assoc, Nat.and_two_pow_sub_one_eq_mod, Nat.mod_eq_of_lt h]
theorem rev64_a (X : Nat) (h : X < 16777216) : bits BinOp.or IntKind.u64 (bits BinOp.and IntKind.u64 ((X : Int) / 256) 71777214294589695) (bits BinOp.and IntKind.u64 (X : Int) 71777214294589695 * 256 % 18446744073709551616) = ((X / 256 % 256 + X % 256 * 256 + X / 65536 * 16777216 : Nat) : Int) := by
  have e1 : (X : Int) / 256 = ((X / 256 : Nat) : Int) := by omega
  have a1 : X / 256 &&& 71777214294589695 = X / 256 % 256 := by
    rw [small_mask (X / 256) 71777214294589695 16 255 (by omega) (by decide), nat_mask8]
  have a2 : X &&& 71777214294589695 = X / 65536 * 65536 + X % 256 := by
    rw [small_mask X 71777214294589695 24 16711935 (by omega) (by decide), pair_mask, Nat.mod_eq_of_lt (show X / 65536 < 256 by omega)]
  rw [e1, show (71777214294589695 : Int) = ((71777214294589695 : Nat) : Int) from rfl, u64_and_nat _ _ (by omega) (by decide), u64_and_nat _ _ (by omega) (by decide), a1, a2]
  have e2 : ((X / 65536 * 65536 + X % 256 : Nat) : Int) * 256 % 18446744073709551616 = ((X / 65536 * 16777216 + X % 256 * 256 : Nat) : Int) := by omega
  rw [e2, u64_or_nat _ _ (by omega) (by omega), Nat.or_comm, nat_join8 _ _ (by omega) (by omega)]
  refine congrArg (fun n : Nat => (n : Int)) ?_
  omega
theorem rev64_b (p q r : Nat) (hp : p < 256) (hq : q < 256) (hr : r < 256) : bits BinOp.or IntKind.u64 (bits BinOp.and IntKind.u64 (((q + p * 256 + r * 16777216 : Nat) : Int) / 65536) 281470681808895) (bits BinOp.and IntKind.u64 ((q + p * 256 + r * 16777216 : Nat) : Int) 281470681808895 * 65536 % 18446744073709551616) = ((r * 256 + q * 65536 + p * 16777216 : Nat) : Int) := by
  have e1 : ((q + p * 256 + r * 16777216 : Nat) : Int) / 65536 = ((r * 256 : Nat) : Int) := by omega
  have a1 : r * 256 &&& 281470681808895 = r * 256 := by
    rw [small_mask (r * 256) 281470681808895 16 65535 (by omega) (by decide), show (65535 : Nat) = 2 ^ 16 - 1 from rfl, Nat.and_two_pow_sub_one_eq_mod, Nat.mod_eq_of_lt (by omega)]
  have a2 : (q + p * 256 + r * 16777216) &&& 281470681808895 = q + p * 256 := by
    rw [small_mask (q + p * 256 + r * 16777216) 281470681808895 32 65535 (by omega) (by decide), show (65535 : Nat) = 2 ^ 16 - 1 from rfl, Nat.and_two_pow_sub_one_eq_mod]
    omega
  rw [e1, show (281470681808895 : Int) = ((281470681808895 : Nat) : Int) from rfl, u64_and_nat _ _ (by omega) (by decide), u64_and_nat _ _ (by omega) (by decide), a1, a2]
  have e2 : ((q + p * 256 : Nat) : Int) * 65536 % 18446744073709551616 = ((q * 65536 + p * 16777216 : Nat) : Int) := by omega
  rw [e2, u64_or_nat _ _ (by omega) (by omega), Nat.or_comm, nat_join16 _ _ (by omega) (by omega)]
  refine congrArg (fun n : Nat => (n : Int)) ?_
  omega
theorem rev64_c (p q r : Nat) (hp : p < 256) (hq : q < 256) (hr : r < 256) : bits BinOp.or IntKind.u64 (((r * 256 + q * 65536 + p * 16777216 : Nat) : Int) / 4294967296) (((r * 256 + q * 65536 + p * 16777216 : Nat) : Int) * 4294967296 % 18446744073709551616) = ((p * 72057594037927936 + q * 281474976710656 + r * 1099511627776 : Nat) : Int) := by
  have e1 : ((r * 256 + q * 65536 + p * 16777216 : Nat) : Int) / 4294967296 = ((0 : Nat) : Int) := by omega
  have e2 : ((r * 256 + q * 65536 + p * 16777216 : Nat) : Int) * 4294967296 % 18446744073709551616 = ((r * 1099511627776 + q * 281474976710656 + p * 72057594037927936 : Nat) : Int) := by omega
  rw [e1, e2, u64_or_nat _ _ (by omega) (by omega), Nat.zero_or]
  refine congrArg (fun n : Nat => (n : Int)) ?_
  omega
theorem rev64_any (X : Nat) (h : X < 16777216) (w : World) :
    Calls Tryd.prog 48 #[.int .u64 X] w fun e w' => e = .returned (.int .u64 (revW X : Nat)) ∧ w = w' := by
  have H := Lib.hid h
  clear h
  go_enter Tryd.func48, Tryd.ntmps48
  go_wp2
  go_ret
  refine ⟨?_, rfl⟩
  show Ending.returned (.int .u64 (bits BinOp.or IntKind.u64 (bits BinOp.or IntKind.u64 (bits BinOp.and IntKind.u64 (bits BinOp.or IntKind.u64 (bits BinOp.and IntKind.u64 ((X : Int) / 256) 71777214294589695) (bits BinOp.and IntKind.u64 (X : Int) 71777214294589695 * 256 % 18446744073709551616) / 65536) 281470681808895) (bits BinOp.and IntKind.u64 (bits BinOp.or IntKind.u64 (bits BinOp.and IntKind.u64 ((X : Int) / 256) 71777214294589695) (bits BinOp.and IntKind.u64 (X : Int) 71777214294589695 * 256 % 18446744073709551616)) 281470681808895 * 65536 % 18446744073709551616) / 4294967296) (bits BinOp.or IntKind.u64 (bits BinOp.and IntKind.u64 (bits BinOp.or IntKind.u64 (bits BinOp.and IntKind.u64 ((X : Int) / 256) 71777214294589695) (bits BinOp.and IntKind.u64 (X : Int) 71777214294589695 * 256 % 18446744073709551616) / 65536) 281470681808895) (bits BinOp.and IntKind.u64 (bits BinOp.or IntKind.u64 (bits BinOp.and IntKind.u64 ((X : Int) / 256) 71777214294589695) (bits BinOp.and IntKind.u64 (X : Int) 71777214294589695 * 256 % 18446744073709551616)) 281470681808895 * 65536 % 18446744073709551616) * 4294967296 % 18446744073709551616))) = _
  rw [rev64_a X H.out, rev64_b (X % 256) (X / 256 % 256) (X / 65536) (by omega) (by omega) (by have := H.out; omega), rev64_c (X % 256) (X / 256 % 256) (X / 65536) (by omega) (by omega) (by have := H.out; omega)]
  rfl
theorem revW_lt (X : Nat) (h : X < 16777216) : revW X < 18446744073709551616 := by unfold revW; omega
theorem put_rev64 (X : Nat) (h : X < 16777216) : putL (revW X) 8 = leN X 8 := by
  have f2 : X / 256 / 256 % 256 = X / 65536 := by rw [Nat.div_div_eq_div_mul]; omega
  have f3 : X / 256 / 256 / 256 = 0 := by rw [Nat.div_div_eq_div_mul, Nat.div_div_eq_div_mul]; omega
  have h2 : X / 65536 < 256 := by omega
  have h1 : X / 256 % 256 < 256 := by omega
  have h0 : X % 256 < 256 := by omega
  have p7 : (256 : Nat) ^ 7 = 72057594037927936 := by decide
  have p6 : (256 : Nat) ^ 6 = 281474976710656 := by decide
  have p5 : (256 : Nat) ^ 5 = 1099511627776 := by decide
  have p4 : (256 : Nat) ^ 4 = 4294967296 := by decide
  have p3 : (256 : Nat) ^ 3 = 16777216 := by decide
  have p2 : (256 : Nat) ^ 2 = 65536 := by decide
  have e7 : revW X / 72057594037927936 % 256 = X % 256 := by unfold revW; generalize X % 256 = a at *; generalize X / 256 % 256 = b at *; generalize X / 65536 = c at *; omega
  have e6 : revW X / 281474976710656 % 256 = X / 256 % 256 := by unfold revW; generalize X % 256 = a at *; generalize X / 256 % 256 = b at *; generalize X / 65536 = c at *; omega
  have e5 : revW X / 1099511627776 % 256 = X / 65536 := by unfold revW; generalize X % 256 = a at *; generalize X / 256 % 256 = b at *; generalize X / 65536 = c at *; omega
  have e4 : revW X / 4294967296 % 256 = 0 := by unfold revW; generalize X % 256 = a at *; generalize X / 256 % 256 = b at *; generalize X / 65536 = c at *; omega
  have e3 : revW X / 16777216 % 256 = 0 := by unfold revW; generalize X % 256 = a at *; generalize X / 256 % 256 = b at *; generalize X / 65536 = c at *; omega
  have e2 : revW X / 65536 % 256 = 0 := by unfold revW; generalize X % 256 = a at *; generalize X / 256 % 256 = b at *; generalize X / 65536 = c at *; omega
  have e1 : revW X / 256 % 256 = 0 := by unfold revW; generalize X % 256 = a at *; generalize X / 256 % 256 = b at *; generalize X / 65536 = c at *; omega
  have e0 : revW X % 256 = 0 := by unfold revW; generalize X % 256 = a at *; generalize X / 256 % 256 = b at *; generalize X / 65536 = c at *; omega
  simp only [putL, leN, p7, p6, p5, p4, p3, p2, Nat.pow_one, Nat.pow_zero, Nat.div_one, e0, e1, e2, e3, e4, e5, e6, e7, f2, f3, Nat.zero_div, Nat.zero_mod]

end Go.Proofs.YtlfeholphngilaaDoor
