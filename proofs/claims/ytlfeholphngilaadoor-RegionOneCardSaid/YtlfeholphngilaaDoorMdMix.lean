/- md5.mix, bits.RotateLeft32. -/
import Derived.Test.YtlfeholphngilaaDoorMd5C
import Derived.Test.YtlfeholphngilaaDoorBy
import Derived.WalkLawsBesides
namespace Go.Proofs.YtlfeholphngilaaDoor
open Go.RowKit
attribute [local go_sem ↓] Go.wp_at_zero Go.wp_at_succ
set_option linter.unusedSimpArgs false
set_option linter.unusedVariables false
set_option maxRecDepth 100000

theorem m1 (i : Nat) {b c d : Nat} (h : i < 16) (hb : b < 4294967296) (hc : c < 4294967296) (hd : d < 4294967296) : bits BinOp.or IntKind.u32 (bits BinOp.and IntKind.u32 (b : Int) (c : Int)) (bits BinOp.and IntKind.u32 (bits BinOp.xor IntKind.u32 4294967295 (b : Int)) (d : Int)) = (fN i b c d : Nat) := by
  rw [show (4294967295 : Int) = ((4294967295 : Nat) : Int) from rfl, u32_xor_nat 4294967295 b (by decide) hb, u32_and_nat b c hb hc, u32_and_nat _ d (xor32 (by decide) hb) hd, u32_or_nat _ _ (and32 hc) (and32 hd), sel_eq b c d hb hd]
  unfold fN
  rw [if_pos h]
theorem m2 (i : Nat) {b c d : Nat} (h0 : ¬ i < 16) (h : i < 32) (hb : b < 4294967296) (hc : c < 4294967296) (hd : d < 4294967296) : bits BinOp.or IntKind.u32 (bits BinOp.and IntKind.u32 (d : Int) (b : Int)) (bits BinOp.and IntKind.u32 (bits BinOp.xor IntKind.u32 4294967295 (d : Int)) (c : Int)) = (fN i b c d : Nat) := by
  rw [show (4294967295 : Int) = ((4294967295 : Nat) : Int) from rfl, u32_xor_nat 4294967295 d (by decide) hd, u32_and_nat d b hd hb, u32_and_nat _ c (xor32 (by decide) hd) hc, u32_or_nat _ _ (and32 hb) (and32 hc), sel_eq d b c hd hc]
  unfold fN
  rw [if_neg h0, if_pos h]
theorem gX1 {i : Nat} (h : i < 16) : gX i = i := by unfold gX; rw [if_pos h]
theorem gX2 {i : Nat} (h0 : ¬ i < 16) (h : i < 32) : gX i = 5 * i + 1 := by unfold gX; rw [if_neg h0, if_pos h]
theorem gX3 {i : Nat} (h0 : ¬ i < 16) (h1 : ¬ i < 32) (h : i < 48) : gX i = 3 * i + 5 := by unfold gX; rw [if_neg h0, if_neg h1, if_pos h]
theorem gX4 {i : Nat} (h0 : ¬ i < 16) (h1 : ¬ i < 32) (h2 : ¬ i < 48) : gX i = 7 * i := by unfold gX; rw [if_neg h0, if_neg h1, if_neg h2]

set_option maxHeartbeats 1600000 in
theorem mix_any (i b c d : Nat) (w : World) (hi : i < 64) (hb : b < 4294967296) (hc : c < 4294967296) (hd : d < 4294967296) :
    Calls Tryd.prog 54 #[.int .i64 i, .int .u32 b, .int .u32 c, .int .u32 d] w fun e w' => e = .returned (.tuple #[.int .u32 (fN i b c d : Nat), .int .i64 (gX i : Nat)]) ∧ w = w' := by
  have hF := fun h => @m1 i b c d h hb hc hd
  have hF2 := fun h0 h => @m2 i b c d h0 h hb hc hd
  have hF3 := fun h0 h1 h => @f3 i b c d h0 h1 h hb hc hd
  have hF4 := fun h0 h1 h2 => @f4 i b c d h0 h1 h2 hb hc hd
  generalize fN i b c d = F at *
  by_cases h16 : i < 16
  · have HF1 := Lib.hid (hF h16)
    have HG := Lib.hid (gX1 h16)
    have q : (i : Int) / 16 = 0 := by omega
    clear hF hF2 hF3 hF4 h16
    go_enter Tryd.func54, Tryd.ntmps54
    go_wp2
    go_ret2
    refine ⟨?_, rfl⟩
    rw [HG.out, ← HF1.out]
    rfl
  · by_cases h32 : i < 32
    · have HF1 := Lib.hid (hF2 h16 h32)
      have HG := Lib.hid (gX2 h16 h32)
      have q : (i : Int) / 16 = 1 := by omega
      clear hF hF2 hF3 hF4 h16 h32
      go_enter Tryd.func54, Tryd.ntmps54
      go_wp2
      go_ret2
      refine ⟨?_, rfl⟩
      rw [HG.out, ← HF1.out]
      go_num
    · by_cases h48 : i < 48
      · have HF1 := Lib.hid (hF3 h16 h32 h48)
        have HG := Lib.hid (gX3 h16 h32 h48)
        have q : (i : Int) / 16 = 2 := by omega
        clear hF hF2 hF3 hF4 h16 h32 h48
        go_enter Tryd.func54, Tryd.ntmps54
        go_wp2
        go_ret2
        refine ⟨?_, rfl⟩
        rw [HG.out, ← HF1.out]
        go_num
      · have HF1 := Lib.hid (hF4 h16 h32 h48)
        have HG := Lib.hid (gX4 h16 h32 h48)
        have q : (i : Int) / 16 = 3 := by omega
        clear hF hF2 hF3 hF4 h16 h32 h48
        go_enter Tryd.func54, Tryd.ntmps54
        go_wp2
        go_ret2
        refine ⟨?_, rfl⟩
        rw [HG.out, ← HF1.out]
        go_num
theorem and31 (t : Nat) (h : t < 32) : bits BinOp.and IntKind.u64 (t : Int) 31 = (t : Int) := by
  rw [show (31 : Int) = ((31 : Nat) : Int) from rfl, u64_and_nat t 31 (by omega) (by decide), nat_mask5, Nat.mod_eq_of_lt h]
set_option maxHeartbeats 1600000 in
theorem rot_any (Z T : Nat) (w : World) (hZ : Z < 4294967296) (h4 : 4 ≤ T) (h23 : T ≤ 23) :
    Calls Tryd.prog 55 #[.int .u32 Z, .int .i64 T] w fun e w' => e = .returned (.int .u32 (rotN Z T : Nat)) ∧ w = w' := by
  have hA := and31 T (by omega)
  have HR := Lib.hid (rot32 Z T hZ)
  have hs : IntKind.u64.wrap (32 - (T : Int)) = ((32 - T : Nat) : Int) := by
    rw [show (32 : Int) - (T : Int) = ((32 - T : Nat) : Int) by omega]
    unfold IntKind.wrap
    simp [IntKind.bits, IntKind.signed]
    omega
  go_enter Tryd.func55, Tryd.ntmps55
  go_wp2
  go_ret
  refine ⟨?_, rfl⟩
  rw [← HR.out]
  rfl

end Go.Proofs.YtlfeholphngilaaDoor
