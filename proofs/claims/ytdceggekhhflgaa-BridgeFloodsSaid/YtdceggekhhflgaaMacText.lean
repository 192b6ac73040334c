/- mac.Text at every address: its text; nothing that was there is changed. -/
import Derived.Test.YtdceggekhhflgaaProg
import Derived.Test.YtdceggekhhflgaaHexT
import Derived.WalkKit
import Derived.WalkSpells
import Derived.WalkLawsBesides
import Derived.Laws.IdiomStrings
import Derived.Deep.RegionHeld3
import Derived.Deep.AppendLies
import Derived.Deep.DrawnRows
import Derived.Lib.Hide
import Derived.Lib.SmallJoins
namespace Go.Proofs.Ytdceggekhhflgaa
open Go.RowKit
attribute [local go_sem ↓] Go.wp_at_zero Go.wp_at_succ

/-- An address as a value. -/
def addrV (x : Nat → Nat) : Value := .agg #[.int .u8 (x 0), .int .u8 (x 1), .int .u8 (x 2), .int .u8 (x 3), .int .u8 (x 4), .int .u8 (x 5)]

theorem Try.infoU8 : (Try.prog.info? 5).map (fun i => (i.zero, i.size, i.bytes)) = some (some (.int .u8 0), 1, 1) := by kernel_rfl

/-- Bytes as cells. -/
def byC (l : List UInt8) : List Value := l.map fun b => Value.int .u8 (b.toNat : Int)

theorem byC_append (a b : List UInt8) : byC (a ++ b) = byC a ++ byC b := by simp [byC]

theorem byC_length (a : List UInt8) : (byC a).length = a.length := by simp [byC]

theorem addrTo_length (x : Nat → Nat) : ∀ k, (addrTo x k).length ≤ 3 * k
  | 0 => by simp [addrTo]
  | k + 1 => by
    have := addrTo_length x k
    simp only [addrTo, List.length_append, hex2]
    split <;> simp <;> omega

theorem six_at (x : Nat → Nat) (k : Nat) (hk : k < 6) (W : World) : (Instr.index 33 (.agg #[.int .u8 (x 0), .int .u8 (x 1), .int .u8 (x 2), .int .u8 (x 3), .int .u8 (x 4), .int .u8 (x 5)]) (.int .i64 (k : Int))).run Try.prog W = .ok (.int .u8 (x k)) W := by
  have h : k = 0 ∨ k = 1 ∨ k = 2 ∨ k = 3 ∨ k = 4 ∨ k = 5 := by omega
  rcases h with rfl | rfl | rfl | rfl | rfl | rfl
  all_goals (show _ = _; kernel_rfl)

/-- A digit out of the sixteen. -/
theorem digit_of (y : Nat) (hy : y < 16) : ((⟨#[48, 49, 50, 51, 52, 53, 54, 55, 56, 57, 97, 98, 99, 100, 101, 102]⟩ : ByteArray)[y]'hy) = hexc y := by
  have h : ∀ y : Nat, (hy : y < 16) → ((⟨#[48, 49, 50, 51, 52, 53, 54, 55, 56, 57, 97, 98, 99, 100, 101, 102]⟩ : ByteArray)[y]'hy) = hexc y := by decide
  exact h y hy

theorem low_four : ∀ y : Nat, y < 256 → bits .and .u8 (y : Int) 15 = ((y % 16 : Nat) : Int) := by decide +kernel

theorem rel_step {w2 : World} {B : Nat} {v : Value} {l l' m : List UInt8} {cs : List Value} {n : Nat} (h : w2.ownsRow B 5 1 v n cs) (hl : l' = l ++ m) (hn : n = l'.length) (hc : cs = byC l ++ byC m) :
    w2.ownsRow B 5 1 v l'.length (byC l') := by
  rw [← hn, hl, byC_append, ← hc]
  exact h

theorem byC_one (b : UInt8) (n : Nat) (h : b.toNat = n) : [Value.int .u8 (n : Int)] = byC [b] := by simp [byC, h]



end Go.Proofs.Ytdceggekhhflgaa
