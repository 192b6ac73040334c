/- The reference's bytesOf and be at every number. -/
import Derived.Test.YtjoepmfineinfaaDoorNum
import Derived.Test.YtjoepmfineinfaaDoorBlk
import Derived.Test.YtjoepmfineinfaaDoorBy
namespace Go.Proofs.YtjoepmfineinfaaDoor
open Go.RowKit
attribute [local go_sem ↓] Go.wp_at_zero Go.wp_at_succ

theorem one_byte (W : World) (b : UInt8) :
    (convert 74 9 (.slice (some ⟨W.heap.size, 0, none⟩) 1 1)).run Tryd.prog (W.alloc (.cells #[.int .u8 (b.toNat : Int)] 5)) = .ok (.string ⟨#[b]⟩) (W.alloc (.cells #[.int .u8 (b.toNat : Int)] 5)) := by
  have h := run_convert_bytes_back (P := Tryd.prog) (W.alloc (.cells #[.int .u8 (b.toNat : Int)] 5)) 74 9 5 ⟨W.heap.size, 0, none⟩ 1 [b] Tryd.underlying74 Tryd.underlying5 Tryd.underlying9 (fun j hj => by
    have hj0 : j = 0 := by simp at hj; exact hj
    subst hj0
    rw [Addr.add_lit, World.cell?_alloc_at _ _ _ _ rfl]
    rfl)
  exact h

theorem one_digit (W : World) (y : Nat) :
    (convert 74 9 (.slice (some ⟨W.heap.size, 0, none⟩) 1 1)).run Tryd.prog (W.alloc (.cells #[.int .u8 ((y : Int) % 256)] 5)) = .ok (.string ⟨#[UInt8.ofNat (y % 256)]⟩) (W.alloc (.cells #[.int .u8 ((y : Int) % 256)] 5)) := by
  have e : ((y : Int) % 256) = ((UInt8.ofNat (y % 256)).toNat : Int) := by rw [UInt8.toNat_ofNat', Nat.mod_mod]; omega
  rw [e]
  exact one_byte W _






end Go.Proofs.YtjoepmfineinfaaDoor
