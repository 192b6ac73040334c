/- tag.Right, and the reference's TagRight and within, at every argument; nothing that was there is changed. -/
import Derived.Test.YtdceggekhhflgaaProg
import Derived.WalkKit
import Derived.WalkSpells
import Derived.WalkLawsBesides
import Derived.Lib.Hide
import Derived.Lib.SmallJoins
namespace Go.Proofs.Ytdceggekhhflgaa
open Go.RowKit

/-- A tag, plainly. -/
structure Tg where
  s : Bool
  p : Int
  d : Bool
  v : Int

/-- A tag as a value. -/
def tagV (t : Tg) : Value := .agg #[.bool t.s, .int .i64 t.p, .bool t.d, .int .i64 t.v]

/-- Whether a tag may be. -/
def okT (t : Tg) : Bool := (decide (0 ≤ t.p) && decide (t.p ≤ 7)) && (decide (0 ≤ t.v) && decide (t.v ≤ 4094))

theorem right_any (t : Tg) (w : World) :
    Calls Try.prog 71 #[tagV t] w fun e w' => e = .returned (.bool (okT t)) ∧ Below w.heap.size w w' := by
  obtain ⟨s, p, d, v⟩ := t
  have B0 : Below w.heap.size w (w.alloc (.cells #[.bool s, .int .i64 p, .bool d, .int .i64 v] 68)) := (Below.refl _ _).alloc (Nat.le_refl _) _
  unfold tagV okT
  dsimp only
  cases h1 : decide (0 ≤ p) <;> cases h2 : decide (p ≤ 7) <;> cases h3 : decide (0 ≤ v) <;> cases h4 : decide (v ≤ 4094)
  all_goals (
    go_enter Try.func71, Try.ntmps71
    go_wp2
    go_ret
    exact ⟨rfl, B0⟩)





end Go.Proofs.Ytdceggekhhflgaa
