/- The reference's cursor.body, everywhere. (apart: numAt, numAt_one, bpAt) -/
import Derived.Test.YtdjljnpbnhampaaDoorNamesAt
import Derived.Test.YtdjljnpbnhampaaDoorBpPlain
namespace Go.Proofs.YtdjljnpbnhampaaDoor
open Go.RowKit
attribute [local go_sem ↓] Go.wp_at_zero Go.wp_at_succ
set_option linter.unusedSimpArgs false
set_option linter.unusedVariables false
set_option maxRecDepth 100000

def numAt (s : ByteArray) (p n : Nat) : Nat := beN ((s.data.toList.drop p).take n)

theorem numAt_one (s : ByteArray) (p : Nat) : numAt s p 1 < 256 := by
  unfold numAt
  have h := beN_lt ((s.data.toList.drop p).take 1)
  have hl : ((s.data.toList.drop p).take 1).length ≤ 1 := List.length_take_le 1 _
  have h3 : 256 ^ ((s.data.toList.drop p).take 1).length ≤ 256 ^ 1 := Nat.pow_le_pow_right (by decide) hl
  omega

/-- What lies there. -/
def bpAt (s : ByteArray) (p : Nat) (k : Int) : Bp := ⟨k, (ofF (numAt s p 1)), (brAt s (p + 1)), (numAt s (p + 9) 4 : Int), (brAt s (p + 13)), ((beAt s (p + 21) : Int) / 4096 * 16), ((beAt s (p + 21) : Int) % 4096), (numAt s (p + 23) 2 : Int), (numAt s (p + 25) 2 : Int), (numAt s (p + 27) 2 : Int), (numAt s (p + 29) 2 : Int)⟩

/-- What is wrong first, and where: n bytes, from p on; z: the port's number is 0. -/
def bdE (n p : Nat) (z : Bool) : Option (Int × Nat) :=
  if n < p + 1 then some (7, p) else
   if n < p + 3 then some (7, p + 1) else
   if n < p + 9 then some (7, p + 3) else
   if n < p + 13 then some (7, p + 9) else
   if n < p + 15 then some (7, p + 13) else
   if n < p + 21 then some (7, p + 15) else
   if n < p + 23 then some (7, p + 21) else
   if z = true then some (2, p + 21) else
   if n < p + 25 then some (7, p + 23) else
   if n < p + 27 then some (7, p + 25) else
   if n < p + 29 then some (7, p + 27) else
   if n < p + 31 then some (7, p + 29) else
   none

def pzAt (s : ByteArray) (p : Nat) : Bool := beAt s p % 4096 == 0

theorem isNo {u : ByteArray} {l : List UInt8} (h : ¬ u.data.toList = l) : (u.toList == l) = false := by
  apply beq_eq_false_iff_ne.2
  rw [ByteArray.toList_eq]
  exact h

/-- The head. -/
def hdAt (s : ByteArray) : List UInt8 := (s.data.toList.drop 0).take 4

def tlAt (s : ByteArray) : List UInt8 := (s.data.toList.drop 35).take 1


end Go.Proofs.YtdjljnpbnhampaaDoor
