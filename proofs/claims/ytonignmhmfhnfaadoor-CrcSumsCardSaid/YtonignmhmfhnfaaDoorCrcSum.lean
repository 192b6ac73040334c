/- crc.Sum at every text. -/
import Derived.Test.YtonignmhmfhnfaaDoorProg
import Derived.Test.YtonignmhmfhnfaaDoorCrcMore
import Derived.Test.YtonignmhmfhnfaaDoorNum
import Derived.WalkKit
import Derived.WalkSpells
import Derived.WalkLawsBesides
import Derived.Laws.IdiomStrings
import Derived.Laws.BitsAllLaws
import Derived.Lib.Hide
namespace Go.Proofs.YtonignmhmfhnfaaDoor
open Go.RowKit

theorem cfeed_snoc (r : Nat) (l : List UInt8) (b : UInt8) : cfeed r (l ++ [b]) = cbyte (cfeed r l) b.toNat := by simp [cfeed]

theorem feed_next (s : ByteArray) (k : Nat) (h : k < s.size) : cfeed cM (s.data.toList.take (k + 1)) = cbyte (cfeed cM (s.data.toList.take k)) (s[k]).toNat := by
  rw [take_snoc s.data.toList k (by simpa using h), cfeed_snoc]
  rfl

theorem low_bit (C : Nat) (h : C < 4294967296) : bits BinOp.and IntKind.u32 (C : Int) 1 = ((C % 2 : Nat) : Int) := by
  rw [show (1 : Int) = ((1 : Nat) : Int) from rfl, u32_and_nat C 1 h (by decide), nat_mask1]

theorem step_odd (C : Nat) (h : C < 4294967296) (ho : (bits BinOp.and IntKind.u32 (C : Int) 1 == 1) = true) : bits BinOp.xor IntKind.u32 ((C : Int) / 2) 3988292384 = ((cstep C : Nat) : Int) := by
  rw [low_bit C h, beq_iff_eq] at ho
  have e : (C : Int) / 2 = ((C / 2 : Nat) : Int) := by omega
  rw [e, show (3988292384 : Int) = ((3988292384 : Nat) : Int) from rfl, u32_xor_nat _ _ (by omega) (by decide), cstep, if_pos (by omega)]
  rfl

theorem step_even (C : Nat) (h : C < 4294967296) (ho : (bits BinOp.and IntKind.u32 (C : Int) 1 == 1) = false) : (C : Int) / 2 = ((cstep C : Nat) : Int) := by
  rw [low_bit C h] at ho
  have ho2 : ¬ C % 2 = 1 := fun q => by rw [q] at ho; cases ho
  rw [cstep, if_neg ho2]
  omega

set_option maxHeartbeats 800000 in
theorem sum_any (s : ByteArray) (w : World) (hs : s.size ≤ 281474976710656) :
    Calls Tryd.prog 6 #[.string s] w fun e w' => e = .returned (.int .u32 (csum s.data.toList : Nat)) ∧ w = w' := by
  go_enter Tryd.func6, Tryd.ntmps6
  go_wp2
  go_loop [3, 8] (fun x i => ∃ k : Nat, k ≤ s.size ∧ i = .int .i64 k ∧ x = .int .u32 (cfeed cM (s.data.toList.take k) : Nat)) (fun _ i => s.size - (intOf i).toNat)
  case atStart => exact ⟨0, by omega, rfl, rfl⟩
  case round =>
    obtain ⟨k, hk, rfl, rfl⟩ := hrel
    by_cases hlt : k < s.size
    · have HS := Lib.hid (feed_next s k hlt)
      have hR : cfeed cM (s.data.toList.take k) < 4294967296 := cfeed_lt _ (by decide)
      generalize cfeed cM (s.data.toList.take k) = R at *
      have hb : (s[k]).toNat < 256 := (s[k]).toNat_lt
      go_wp2
      have HX := Lib.hid (u32_xor_nat R (s[k]).toNat hR (by omega))
      have hR2 : R ^^^ (s[k]).toNat < 4294967296 := Nat.xor_lt_two_pow (n := 32) hR (by omega)
      go_loop [3, 17] (fun x i => ∃ j : Nat, j ≤ 8 ∧ i = .int .i64 j ∧ x = .int .u32 (csteps j (R ^^^ (s[k]).toNat) : Nat)) (fun _ i => 8 - (intOf i).toNat)
      case atStart => exact ⟨0, by omega, rfl, by rw [HX.out]; rfl⟩
      case round =>
        obtain ⟨j, hj, rfl, rfl⟩ := hrel
        by_cases hlj : j < 8
        · have HC := Lib.hid (csteps_succ j (R ^^^ (s[k]).toNat))
          have hC : csteps j (R ^^^ (s[k]).toNat) < 4294967296 := csteps_lt j (r := R ^^^ (s[k]).toNat) hR2
          clear hR2 hR HX
          generalize csteps j (R ^^^ (s[k]).toNat) = C at *
          go_wp2
          all_goals
            have hodd := ‹(bits BinOp.and IntKind.u32 (C : Int) 1 == 1) = _›
            have HO := Lib.hid hodd
            clear hodd
            go_round
            case rel => exact ⟨j + 1, by omega, by go_num, by rw [HC.out]; first | rw [step_odd C hC HO.out] | rw [step_even C hC HO.out]⟩
            case measure => simp [intOf]; omega
        · obtain rfl : j = 8 := by omega
          go_wp2
          go_round
          case rel => exact ⟨k + 1, by omega, by go_num, by rw [HS.out]; rfl⟩
          case measure => simp [intOf]; omega
    · obtain rfl : k = s.size := by omega
      have HK : Hid (s.data.toList.take s.size = s.data.toList) := by show _ = _; rw [List.take_of_length_le (by simp)]
      have HX := Lib.hid (u32_xor_nat 4294967295 (cfeed cM s.data.toList) (by decide) (cfeed_lt _ (by decide)))
      rw [HK.out]
      go_wp2
      go_ret
      refine ⟨?_, rfl⟩
      show Ending.returned (.int .u32 (bits BinOp.xor IntKind.u32 ((4294967295 : Nat) : Int) ((cfeed cM s.data.toList : Nat) : Int))) = _
      rw [HX.out, Nat.xor_comm]
      rfl
end Go.Proofs.YtonignmhmfhnfaaDoor
