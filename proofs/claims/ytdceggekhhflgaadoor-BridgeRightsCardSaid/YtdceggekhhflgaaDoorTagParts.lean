/- tag.Right, and the reference's TagRight and within, at every argument; nothing that was there is changed. -/
import Derived.Test.YtdceggekhhflgaaDoorProg
import Derived.WalkKit
import Derived.WalkSpells
import Derived.WalkLawsBesides
import Derived.Lib.Hide
import Derived.Lib.SmallJoins
namespace Go.Proofs.YtdceggekhhflgaaDoor
open Go.RowKit

/-- A tag, plainly. -/
structure Tg where
  s : Bool
  p : Int
  d : Bool
  v : Int

/-- A tag as a value. -/
def tagV (t : Tg) : Value := .agg #[.bool t.s, .int .i64 t.p, .bool t.d, .int .i64 t.v]

/-- Whether a tag may be. -/
def okT (t : Tg) : Bool := (decide (0 ≤ t.p) && decide (t.p ≤ 7)) && (decide (0 ≤ t.v) && decide (t.v ≤ 4094))



theorem within_val (n a b : Int) (w : World) :
    Calls Tryd.prog 17 #[.int .i64 n, .int .i64 a, .int .i64 b] w fun e w' => e = .returned (.bool (decide (a ≤ n) && decide (n ≤ b))) ∧ w = w' := by
  cases h1 : decide (a ≤ n) <;> cases h2 : decide (n ≤ b)
  all_goals (
    go_enter Tryd.func17, Tryd.ntmps17
    go_wp2
    go_ret
    exact ⟨rfl, rfl⟩)



end Go.Proofs.YtdceggekhhflgaaDoor
