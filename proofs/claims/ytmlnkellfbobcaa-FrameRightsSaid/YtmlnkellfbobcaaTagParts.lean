/- tag.Right, and the reference's TagRight and within, at every argument; nothing that was there is changed. -/
import Derived.Test.YtmlnkellfbobcaaProg
import Derived.WalkKit
import Derived.WalkSpells
import Derived.WalkLawsBesides
import Derived.Lib.Hide
import Derived.Lib.SmallJoins
namespace Go.Proofs.Ytmlnkellfbobcaa
open Go.RowKit

/-- A tag, plainly. -/
structure Tg where
  s : Bool
  p : Int
  d : Bool
  v : Int

/-- A tag as a value. -/
def tagV (t : Tg) : Value := .agg #[.bool t.s, .int .i64 t.p, .bool t.d, .int .i64 t.v]

/-- Whether a tag may be. -/
def okT (t : Tg) : Bool := (decide (0 ≤ t.p) && decide (t.p ≤ 7)) && (decide (0 ≤ t.v) && decide (t.v ≤ 4094))

theorem right_any (t : Tg) (w : World) :
    Calls Try.prog 18 #[tagV t] w fun e w' => e = .returned (.bool (okT t)) ∧ Below w.heap.size w w' := by
  obtain ⟨s, p, d, v⟩ := t
  have B0 : Below w.heap.size w (w.alloc (.cells #[.bool s, .int .i64 p, .bool d, .int .i64 v] 38)) := (Below.refl _ _).alloc (Nat.le_refl _) _
  unfold tagV okT
  dsimp only
  cases h1 : decide (0 ≤ p) <;> cases h2 : decide (p ≤ 7) <;> cases h3 : decide (0 ≤ v) <;> cases h4 : decide (v ≤ 4094)
  all_goals (
    go_enter Try.func18, Try.ntmps18
    go_wp2
    go_ret
    exact ⟨rfl, B0⟩)

theorem within_val (n a b : Int) (w : World) :
    Calls Try.prog 15 #[.int .i64 n, .int .i64 a, .int .i64 b] w fun e w' => e = .returned (.bool (decide (a ≤ n) && decide (n ≤ b))) ∧ w = w' := by
  cases h1 : decide (a ≤ n) <;> cases h2 : decide (n ≤ b)
  all_goals (
    go_enter Try.func15, Try.ntmps15
    go_wp2
    go_ret
    exact ⟨rfl, rfl⟩)

theorem refRight_any (t : Tg) (w : World) :
    Calls Try.prog 20 #[tagV t] w fun e w' => e = .returned (.bool (okT t)) ∧ Below w.heap.size w w' := by
  obtain ⟨s, p, d, v⟩ := t
  have B0 : Below w.heap.size w (w.alloc (.cells #[.bool s, .int .i64 p, .bool d, .int .i64 v] 38)) := (Below.refl _ _).alloc (Nat.le_refl _) _
  unfold tagV okT
  dsimp only
  go_enter Try.func20, Try.ntmps20
  go_wp2_with fail
  refine (within_val p 0 7 _).mono ?_
  rintro e w1 ⟨rfl, rfl⟩
  cases h1 : (decide (0 ≤ p) && decide (p ≤ 7)) with
  | false =>
    go_wp2
    go_ret
    exact ⟨by rw [h1]; rfl, B0⟩
  | true =>
    go_wp2_with fail
    refine (within_val v 0 4094 _).mono ?_
    rintro e w1 ⟨rfl, rfl⟩
    go_wp2
    go_ret
    exact ⟨by rw [h1]; rfl, B0⟩

end Go.Proofs.Ytmlnkellfbobcaa
