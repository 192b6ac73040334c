/- The reference's bytesOf and be at every number. -/
import Derived.Test.YtikjpcnfldkifaaDoorNum
import Derived.Test.YtikjpcnfldkifaaDoorBlk
import Derived.Test.YtikjpcnfldkifaaDoorBy
namespace Go.Proofs.YtikjpcnfldkifaaDoor
open Go.RowKit
attribute [local go_sem ↓] Go.wp_at_zero Go.wp_at_succ

theorem one_byte (W : World) (b : UInt8) :
    (convert 105 9 (.slice (some ⟨W.heap.size, 0, none⟩) 1 1)).run Tryd.prog (W.alloc (.cells #[.int .u8 (b.toNat : Int)] 5)) = .ok (.string ⟨#[b]⟩) (W.alloc (.cells #[.int .u8 (b.toNat : Int)] 5)) := by
  have h := run_convert_bytes_back (P := Tryd.prog) (W.alloc (.cells #[.int .u8 (b.toNat : Int)] 5)) 105 9 5 ⟨W.heap.size, 0, none⟩ 1 [b] Tryd.underlying105 Tryd.underlying5 Tryd.underlying9 (fun j hj => by
    have hj0 : j = 0 := by simp at hj; exact hj
    subst hj0
    rw [Addr.add_lit, World.cell?_alloc_at _ _ _ _ rfl]
    rfl)
  exact h

theorem one_digit (W : World) (y : Nat) :
    (convert 105 9 (.slice (some ⟨W.heap.size, 0, none⟩) 1 1)).run Tryd.prog (W.alloc (.cells #[.int .u8 ((y : Int) % 256)] 5)) = .ok (.string ⟨#[UInt8.ofNat (y % 256)]⟩) (W.alloc (.cells #[.int .u8 ((y : Int) % 256)] 5)) := by
  have e : ((y : Int) % 256) = ((UInt8.ofNat (y % 256)).toNat : Int) := by rw [UInt8.toNat_ofNat', Nat.mod_mod]; omega
  rw [e]
  exact one_byte W _

set_option maxHeartbeats 800000 in
set_option maxRecDepth 100000 in
theorem bytesOf_any (X n : Nat) (w : World) (h8 : n ≤ 8) (HX : Hid (X ≤ 18446744073709551615)) :
    Calls Tryd.prog 75 #[.int .u64 X, .int .i64 n] w fun e w' => e = .returned (.string ⟨(putL X n).toArray⟩) ∧ Below w.heap.size w w' := by
  go_enter Tryd.func75, Tryd.ntmps75
  go_wp2
  go_loopw [0, 5, 7] (fun x s i wr => ∃ k : Nat, k ≤ n ∧ i = .int .i64 k ∧ x = .int .u64 ((X / 256 ^ k : Nat) : Int) ∧ s = .string ⟨(putL X k).toArray⟩ ∧ Below w.heap.size w wr) (fun _ _ i _ => n - (intOf i).toNat)
  case atStart => exact ⟨0, by omega, rfl, by simp, rfl, Below.refl _ _⟩
  case round =>
    obtain ⟨k, hk, rfl, rfl, rfl, hb⟩ := hrel
    have hlen := putL_length X k
    by_cases hlt : k < n
    · have HN : Hid (X / 256 ^ (k + 1) = X / 256 ^ k / 256) := by show _ = _; rw [Nat.pow_succ, Nat.div_div_eq_div_mul]
      have HP : Hid (putL X (k + 1) = UInt8.ofNat (X / 256 ^ k % 256) :: putL X k) := rfl
      have HY : Hid (X / 256 ^ k ≤ 18446744073709551615) := by show _ ≤ _; exact Nat.le_trans (Nat.div_le_self _ _) HX.out
      generalize X / 256 ^ k = y at *
      have hob := one_digit wr y
      go_wp2
      go_roundw
      case rel =>
        refine ⟨k + 1, by omega, by go_num, ?_, ?_, ?_⟩
        · have hy : y ≤ 18446744073709551615 := HY.out
          have e : IntKind.u64.wrap ((y : Int) / 256) = ((y / 256 : Nat) : Int) := by rw [IntKind.wrap_u64]; omega
          rw [HN.out, e]
        · rw [HP.out]
          congr 1
        · exact hb.alloc hb.size _
      case measure => simp [intOf]; omega
    · obtain rfl : k = n := by omega
      go_wp2
      go_ret
      exact ⟨rfl, hb⟩


theorem be_any (x : Int) (n : Nat) (w : World) (hx0 : 0 ≤ x) (hx : x ≤ 9223372036854775807) (h8 : n ≤ 8) :
    Calls Tryd.prog 37 #[.int .i64 x, .int .i64 n] w fun e w' => e = .returned (.string ⟨(putL x.toNat n).toArray⟩) ∧ Below w.heap.size w w' := by
  obtain ⟨X, rfl⟩ := Int.eq_ofNat_of_zero_le hx0
  have hw : IntKind.u64.wrap (X : Int) = (X : Int) := by rw [IntKind.wrap_u64]; omega
  have HB := bytesOf_any X n w h8 (show X ≤ 18446744073709551615 by omega)
  go_enter Tryd.func37, Tryd.ntmps37
  go_wp2_with (go_at_call 75; (with_reducible refine HB.mono ?_); rintro e w' ⟨rfl, hb⟩)
  go_ret
  exact ⟨rfl, hb⟩

end Go.Proofs.YtikjpcnfldkifaaDoor
