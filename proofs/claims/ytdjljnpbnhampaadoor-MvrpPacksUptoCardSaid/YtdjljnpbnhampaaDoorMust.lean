/- wire.Must of a number that fits. -/
import Derived.Test.YtdjljnpbnhampaaDoorPut
import Derived.Lib.Hide
namespace Go.Proofs.YtdjljnpbnhampaaDoor
open Go.RowKit

set_option maxHeartbeats 800000 in
theorem must_put (X : Nat) (n : Int) (v er : Value) (w : World) (hX : X ≤ 4611686018427387904) (hp : ∀ w2, Calls Tryd.prog 118 #[.int .u64 X, .int .i64 n] w2 fun e w' => e = .returned (.tuple #[v, er]) ∧ Below w2.heap.size w2 w') :
    Calls Tryd.prog 112 #[.int .i64 X, .int .i64 n] w fun e w' => e = .returned v ∧ Below w.heap.size w w' := by
  have HP := Lib.hid hp
  clear hp
  have HW : Hid (IntKind.u64.wrap (X : Int) = (X : Int)) := by show _ = _; rw [IntKind.wrap_u64]; omega
  go_enter Tryd.func112, Tryd.ntmps112
  go_wp2_with fail
  refine (HP.out _).mono ?_
  rintro e w' ⟨rfl, hb⟩
  go_wp2
  go_ret
  exact ⟨rfl, hb⟩

/-- Must, the number fits: its n bytes. -/
theorem must_fits (X n : Nat) (w : World) (h1 : 1 ≤ n) (h7 : n ≤ 7) (hf : X < 256 ^ n) :
    Calls Tryd.prog 112 #[.int .i64 X, .int .i64 n] w fun e w' => e = .returned (.string ⟨(putL X n).toArray⟩) ∧ Below w.heap.size w w' := by
  have hX : X ≤ 4611686018427387904 := by
    have : 256 ^ n ≤ 256 ^ 7 := Nat.pow_le_pow_right (by decide) h7
    omega
  exact must_put X n _ _ w hX fun w2 => put_fits X n w2 h1 (by omega) (fits_to X n hf)

end Go.Proofs.YtdjljnpbnhampaaDoor
