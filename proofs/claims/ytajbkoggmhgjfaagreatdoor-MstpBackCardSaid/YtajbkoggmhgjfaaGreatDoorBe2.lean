/- The reference's bytesOf and be at every number. -/
import Derived.Test.YtajbkoggmhgjfaaGreatDoorNum
import Derived.Test.YtajbkoggmhgjfaaGreatDoorBlk
import Derived.Test.YtajbkoggmhgjfaaGreatDoorBy
namespace Go.Proofs.YtajbkoggmhgjfaaGreatDoor
open Go.RowKit
attribute [local go_sem ↓] Go.wp_at_zero Go.wp_at_succ

theorem one_byte (W : World) (b : UInt8) :
    (convert 51 9 (.slice (some ⟨W.heap.size, 0, none⟩) 1 1)).run Tryz.prog (W.alloc (.cells #[.int .u8 (b.toNat : Int)] 5)) = .ok (.string ⟨#[b]⟩) (W.alloc (.cells #[.int .u8 (b.toNat : Int)] 5)) := by
  have h := run_convert_bytes_back (P := Tryz.prog) (W.alloc (.cells #[.int .u8 (b.toNat : Int)] 5)) 51 9 5 ⟨W.heap.size, 0, none⟩ 1 [b] Tryz.underlying51 Tryz.underlying5 Tryz.underlying9 (fun j hj => by
    have hj0 : j = 0 := by simp at hj; exact hj
    subst hj0
    rw [Addr.add_lit, World.cell?_alloc_at _ _ _ _ rfl]
    rfl)
  exact h

theorem one_digit (W : World) (y : Nat) :
    (convert 51 9 (.slice (some ⟨W.heap.size, 0, none⟩) 1 1)).run Tryz.prog (W.alloc (.cells #[.int .u8 ((y : Int) % 256)] 5)) = .ok (.string ⟨#[UInt8.ofNat (y % 256)]⟩) (W.alloc (.cells #[.int .u8 ((y : Int) % 256)] 5)) := by
  have e : ((y : Int) % 256) = ((UInt8.ofNat (y % 256)).toNat : Int) := by rw [UInt8.toNat_ofNat', Nat.mod_mod]; omega
  rw [e]
  exact one_byte W _






end Go.Proofs.YtajbkoggmhgjfaaGreatDoor
