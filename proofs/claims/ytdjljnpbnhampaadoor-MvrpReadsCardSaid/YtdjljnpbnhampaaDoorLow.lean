/- The small functions that the laws share: pick (some number below n) and wired (a fact on package wire). -/
import Derived.Test.YtdjljnpbnhampaaDoorRdNum
namespace Go.Proofs.YtdjljnpbnhampaaDoor
open Go.RowKit

/-- What 'pick' comes to. -/
theorem pick_val (a : Int) (n : Nat) (h1 : 1 ≤ n) (hn : n ≤ 281474976710656) : ∃ r : Nat, wrap64 ((IntKind.u64.wrap a).tmod (n : Int)) = (r : Int) ∧ r < n := by
  have hw := wrap_u64_nonneg a
  have e : (IntKind.u64.wrap a).tmod (n : Int) = IntKind.u64.wrap a % (n : Int) := Int.tmod_eq_emod_of_nonneg hw
  have h0 := Int.emod_nonneg (IntKind.u64.wrap a) (show (n : Int) ≠ 0 by omega)
  have h2 := Int.emod_lt_of_pos (IntKind.u64.wrap a) (show (0 : Int) < n by omega)
  rw [e]
  generalize IntKind.u64.wrap a % (n : Int) = z at h0 h2
  refine ⟨z.toNat, ?_, by omega⟩
  unfold wrap64
  omega



theorem grown_below {B g : Nat} {a w w' : World} (h : Below B a w) (hg : w.grownBy w' (some g)) (hB : B ≤ w.heap.size) (hr : B ≤ g) : Below B a w' :=
  h.grown hg hB fun k e => by cases e; exact hr



end Go.Proofs.YtdjljnpbnhampaaDoor
