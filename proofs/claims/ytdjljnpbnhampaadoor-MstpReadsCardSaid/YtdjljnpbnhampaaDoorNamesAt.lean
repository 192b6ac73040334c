/- The reference's names of bridges and ports, at a cursor. (apart: beAt, beAt_lt, brAt) -/
import Derived.Test.YtdjljnpbnhampaaDoorVecs
import Derived.Test.YtdjljnpbnhampaaDoorCopyT
import Derived.Test.YtdjljnpbnhampaaDoorNum
namespace Go.Proofs.YtdjljnpbnhampaaDoor
open Go.RowKit
attribute [local go_sem ↓] Go.wp_at_zero Go.wp_at_succ
set_option linter.unusedSimpArgs false
set_option linter.unusedVariables false
set_option maxRecDepth 100000

def beAt (s : ByteArray) (p : Nat) : Nat := beN ((s.data.toList.drop p).take 2)

theorem beAt_lt (s : ByteArray) (p : Nat) : beAt s p < 65536 := by
  unfold beAt
  have h := beN_lt ((s.data.toList.drop p).take 2)
  have hl : ((s.data.toList.drop p).take 2).length ≤ 2 := List.length_take_le 2 _
  have h3 : 256 ^ ((s.data.toList.drop p).take 2).length ≤ 256 ^ 2 := Nat.pow_le_pow_right (by decide) hl
  omega

def brAt (s : ByteArray) (p : Nat) : Br := ⟨(beAt s p : Int) / 4096 * 4096, (beAt s p : Int) % 4096, byX ((s.data.toList.drop (p + 2)).take 6)⟩

def ptAt (s : ByteArray) (p : Nat) : Array Value := ptC ((beAt s p : Int) / 4096 * 16) ((beAt s p : Int) % 4096)


end Go.Proofs.YtdjljnpbnhampaaDoor
