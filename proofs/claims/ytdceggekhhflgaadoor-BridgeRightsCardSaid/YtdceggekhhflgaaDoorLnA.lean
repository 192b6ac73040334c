/- package learn: alive, the closures, remove. -/
import Derived.Test.YtdceggekhhflgaaDoorEnFn
import Derived.BigQuiet
import Derived.BigGuard
namespace Go.Proofs.YtdceggekhhflgaaDoor
open Go.RowKit
open Go.Shelf
attribute [local go_sem ↓] Go.wp_at_zero Go.wp_at_succ
set_option linter.unusedSimpArgs false
set_option linter.unusedVariables false
set_option maxRecDepth 100000

/-- The cells of a table. -/
def tabC (age last : Int) (v : Value) : Array Value := #[.int .i64 age, .int .i64 last, v]



/-- What Learn's closure has at hand. -/
structure AtL (t pt pn pv pa : Nat) (age last : Int) (v : Value) (now vid : Int) (a : Nat → Nat) (w : World) : Prop where
  tab : Blk w t 69 (tabC age last v)
  t : Blk w pt 54 #[.pointer (some ⟨t, 0, none⟩)]
  now : Blk w pn 3 #[.int .i64 now]
  vid : Blk w pv 3 #[.int .i64 vid]
  a : Blk w pa 120 (c6 a)

theorem AtL.lx {t pt pn pv pa : Nat} {age last : Int} {v : Value} {now vid : Int} {a : Nat → Nat} {B : Nat} {w w' : World} (h : AtL t pt pn pv pa age last v now vid a w) (hx : Lx B [124] w w') : AtL t pt pn pv pa age last v now vid a w' :=
  ⟨hx.blk h.tab (by decide), hx.blk h.t (by decide), hx.blk h.now (by decide), hx.blk h.vid (by decide), hx.blk h.a (by decide)⟩









end Go.Proofs.YtdceggekhhflgaaDoor
