/- tag.Right, and the reference's TagRight and within, at every argument; nothing that was there is changed. -/
import Derived.Test.YtnlphldkdglofaaProg
import Derived.WalkKit
import Derived.WalkSpells
import Derived.WalkLawsBesides
import Derived.Lib.Hide
import Derived.Lib.SmallJoins
namespace Go.Proofs.Ytnlphldkdglofaa
open Go.RowKit

/-- A tag, plainly. -/
structure Tg where
  s : Bool
  p : Int
  d : Bool
  v : Int

/-- A tag as a value. -/
def tagV (t : Tg) : Value := .agg #[.bool t.s, .int .i64 t.p, .bool t.d, .int .i64 t.v]

/-- Whether a tag may be. -/
def okT (t : Tg) : Bool := (decide (0 ≤ t.p) && decide (t.p ≤ 7)) && (decide (0 ≤ t.v) && decide (t.v ≤ 4094))







end Go.Proofs.Ytnlphldkdglofaa
