/- Addresses held against each other; mac.Reserved at every argument; nothing that was there is changed. -/
import Derived.Test.YtceiiolpggolbaaDoorMacParts
import Derived.Stop.BytesEq
namespace Go.Proofs.YtceiiolpggolbaaDoor
open Go.RowKit
attribute [local go_sem ↓] Go.wp_at_zero Go.wp_at_succ

set_option maxRecDepth 100000 in
theorem size_u8 (w : World) : (sizeOf 5).run Tryd.prog w = .ok 1 w := by kernel_rfl

theorem addr_cells (x : Nat → Nat) (hx : ∀ i, x i < 256) : addrV x = .agg (((six x).map UInt8.ofNat).map Extern.Stop.cell).toArray := by
  simp [addrV, six, Extern.Stop.cell, Nat.mod_eq_of_lt (hx _)]

theorem six_ofNat {x y : Nat → Nat} (hx : ∀ i, x i < 256) (hy : ∀ i, y i < 256) : ((six x).map UInt8.ofNat == (six y).map UInt8.ofNat) = decide (six x = six y) := by
  rw [Bool.eq_iff_iff]
  simp only [beq_iff_eq, decide_eq_true_eq]
  constructor
  · intro h
    have e : ∀ z : Nat → Nat, (∀ i, z i < 256) → ((six z).map UInt8.ofNat).map UInt8.toNat = six z := fun z hz => by
      simp [six, Nat.mod_eq_of_lt (hz _)]
    rw [← e x hx, ← e y hy, h]
  · intro h; rw [h]

/- Two addresses, held against each other. -/
set_option maxRecDepth 100000 in
theorem run_eql_addr (x y : Nat → Nat) (hx : ∀ i, x i < 256) (hy : ∀ i, y i < 256) (w : World) :
    (Op.equalIn 10000 23 (addrV x) (addrV y)).run Tryd.prog w = .ok (decide (six x = six y)) w := by
  rw [addr_cells x hx, addr_cells y hy, run_equalIn_bytes w 9998 23 5 6 Tryd.underlying23 Tryd.underlying5 size_u8 _ _ (by simp [six]) (by simp [six]), six_ofNat hx hy]

/-- The reserved address of a number. -/
def knownF (n : Nat) : Nat → Nat
  | 0 => 1
  | 1 => 128
  | 2 => 194
  | 5 => n
  | _ => 0

theorem knownF_lt (n : Nat) (hn : n < 256) : ∀ i, knownF n i < 256 := by
  intro i
  unfold knownF
  split <;> omega



/-- What Reserved says. -/
def resv (x : Nat → Nat) : Int := if x 5 < 16 ∧ six x = six (knownF (x 5)) then x 5 else -1



end Go.Proofs.YtceiiolpggolbaaDoor
