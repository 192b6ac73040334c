/- wire.isWidth, wire.Put: what they return at every argument, and that nothing that was there is changed. -/
import Derived.Test.YtdjljnpbnhampaaDoorProg
import Derived.Test.YtdjljnpbnhampaaDoorNum
import Derived.WalkKit
import Derived.WalkSpells
import Derived.WalkLawsBesides
import Derived.Laws.IdiomStrings
namespace Go.Proofs.YtdjljnpbnhampaaDoor
open Go.RowKit

theorem Tryd.info5 : (Tryd.prog.info? 5).map (fun i => (i.zero, i.size, i.bytes)) = some (some (.int .u8 0), 1, 1) := by kernel_rfl

/-- isWidth: whether n is from 1 to 8. -/
theorem width_yes (n : Int) (w : World) (h1 : 1 ≤ n) (h8 : n ≤ 8) :
    Calls Tryd.prog 82 #[.int .i64 n] w fun e w' => e = .returned (.bool true) ∧ w = w' := by
  have hd8 : decide (n ≤ 8) = true := decide_eq_true h8
  go_enter Tryd.func82, Tryd.ntmps82
  go_wp2
  go_ret
  exact ⟨rfl, rfl⟩

theorem width_no (n : Int) (w : World) (h : n < 1 ∨ 8 < n) :
    Calls Tryd.prog 82 #[.int .i64 n] w fun e w' => e = .returned (.bool false) ∧ w = w' := by
  by_cases h1 : 1 ≤ n
  · have hd8 : decide (n ≤ 8) = false := decide_eq_false (by omega)
    go_enter Tryd.func82, Tryd.ntmps82
    go_wp2
    go_ret
    exact ⟨rfl, rfl⟩
  · go_enter Tryd.func82, Tryd.ntmps82
    go_wp2
    go_ret
    exact ⟨rfl, rfl⟩

/-- Put, n no width: ErrRange. -/
theorem put_range (x n : Int) (w : World) (h : n < 1 ∨ 8 < n) :
    Calls Tryd.prog 118 #[.int .u64 x, .int .i64 n] w fun e w' => e = .returned (.tuple #[.string ⟨#[]⟩, .iface 35 (.int .i64 2)]) ∧ w = w' := by
  go_enter Tryd.func118, Tryd.ntmps118
  go_wp2_with (go_at_call 82; refine (width_no _ _ h).mono ?_; rintro e w' ⟨rfl, rfl⟩)
  go_ret2
  exact ⟨rfl, rfl⟩

/-- Put, the number has more than n bytes: ErrFull. -/
theorem put_full (X n : Nat) (w : World) (h1 : 1 ≤ n) (h8 : n ≤ 8) (hf : ((X : Int) / 2 ^ (8 * n) != 0) = true) :
    Calls Tryd.prog 118 #[.int .u64 X, .int .i64 n] w fun e w' => e = .returned (.tuple #[.string ⟨#[]⟩, .iface 35 (.int .i64 12)]) ∧ w = w' := by
  go_enter Tryd.func118, Tryd.ntmps118
  go_wp2_with (go_at_call 82; refine (width_yes _ _ (by omega) (by omega)).mono ?_; rintro e w' ⟨rfl, rfl⟩)
  go_ret2
  exact ⟨rfl, rfl⟩

set_option maxHeartbeats 400000 in
/-- Put, the number fits: its n bytes. -/
theorem put_fits (X n : Nat) (w : World) (h1 : 1 ≤ n) (h8 : n ≤ 8) (hf : ((X : Int) / 2 ^ (8 * n) != 0) = false) :
    Calls Tryd.prog 118 #[.int .u64 X, .int .i64 n] w fun e w' => e = .returned (.tuple #[.string ⟨(putL X n).toArray⟩, .nilIface]) ∧ Below w.heap.size w w' := by
  obtain ⟨i0, hi, hz0, hz1, hz2⟩ := info_parts Tryd.info5
  have hmk := run_make (P := Tryd.prog) w 157 5 i0 (.int .u8 0) Tryd.underlying157 hi hz0 .i64 .i64 n n (by omega) (by omega) (by rw [hz2]; omega) (by omega)
  rw [hz1, Int.toNat_natCast, Nat.mul_one, show (Value.int IntKind.u8 0).cells = #[Value.int .u8 0] from rfl, putC_zero X n] at hmk
  clear hi hz0 hz1 hz2
  go_enter Tryd.func118, Tryd.ntmps118
  go_wp2_with (go_at_call 82; refine (width_yes _ _ (by omega) (by omega)).mono ?_; rintro e w' ⟨rfl, rfl⟩)
  go_loopw [22] (fun i wr => ∃ k : Nat, k ≤ n ∧ i = .int .i64 k ∧ wr = w.alloc (.cells (putC X n k) 5)) (fun i _ => n - (intOf i).toNat)
  case atStart => exact ⟨0, by omega, rfl, rfl⟩
  case round =>
    obtain ⟨k, hk, rfl, rfl⟩ := hrel
    clear hmk
    by_cases hlt : k < n
    · have hcell : (w.alloc (.cells (putC X n k) 5)).cell? ⟨w.heap.size, n - 1 - k, none⟩ = some (.int .u8 (if n ≤ k + (n - 1 - k) then ((X / 256 ^ (n - 1 - (n - 1 - k)) % 256 : Nat) : Int) else 0)) := by
        rw [World.cell?_alloc_at _ _ _ _ rfl]; exact putC_get X n k _ (by omega)
      go_wp2
      go_roundw
      case rel =>
        refine ⟨k + 1, by omega, by go_num, ?_⟩
        have e : ((X : Int) / 2 ^ (8 * k) % 256) = ((X / 256 ^ k % 256 : Nat) : Int) := by rw [← shr_digit]; simp
        rw [e, putC_step X n k hlt]
      case measure => simp [intOf]; omega
    · obtain rfl : k = n := by omega
      have hback := run_convert_bytes_back (P := Tryd.prog) (w.alloc (.cells (putC X k k) 5)) 157 9 5 ⟨w.heap.size, 0, none⟩ k (putL X k) Tryd.underlying157 Tryd.underlying5 Tryd.underlying9 (fun j hj => by
        rw [putL_length] at hj
        rw [Addr.add_lit, Nat.zero_add, World.cell?_alloc_at _ _ _ _ rfl]
        exact putC_end X k j hj)
      rw [putL_length] at hback
      go_wp2
      go_ret2
      exact ⟨rfl, (Below.refl _ _).alloc (Nat.le_refl _) _⟩

end Go.Proofs.YtdjljnpbnhampaaDoor
