/- switchyardlaw.placed: an error that is this one, at this place. -/
import Derived.Test.YtdceggekhhflgaaDoorPlace
import Derived.Test.YtdceggekhhflgaaDoorCaught
import Derived.Test.YtdceggekhhflgaaDoorErrA
namespace Go.Proofs.YtdceggekhhflgaaDoor
open Go.RowKit
set_option linter.unusedVariables false

theorem placed_nil (w : World) : Calls Tryd.prog 8 #[.nilIface, .agg (ftC 0 (-1))] w fun e w' => e = .returned (.bool true) ∧ Below w.heap.size w w' := by
  have hb0 : Below w.heap.size w (w.alloc (.cells (ftC 0 (-1)) 30)) := (Below.refl _ _).alloc (Nat.le_refl _) _
  unfold ftC at *
  go_enter Tryd.func8, Tryd.ntmps8
  go_wp2_with fail
  refine (place_nil _).mono ?_
  rintro e w' ⟨rfl, rfl⟩
  go_wp2
  go_ret
  exact ⟨rfl, hb0⟩

theorem placed_at (q : Nat) (x y : Int) (w : World) (hE : HasErr w) (hq : Flt w q x y) : Calls Tryd.prog 8 #[.iface 57 (.pointer (some ⟨q, 0, none⟩)), .agg (ftC x y)] w fun e w' => e = .returned (.bool true) ∧ Below w.heap.size w w' := by
  have hb0 : Below w.heap.size w (w.alloc (.cells (ftC x y) 30)) := (Below.refl _ _).alloc (Nat.le_refl _) _
  have HB := Blk.new w 30 (ftC x y)
  have hq1 := hq.below hb0
  have hE1 : HasErr (w.alloc (.cells (ftC x y) 30)) := hE.below hb0
  go_enter Tryd.func8, Tryd.ntmps8
  go_upto_region 1 with (fail)
  generalize w.alloc (.cells (ftC x y) 30) = w1 at *
  go_wp2_with fail
  refine (place_at q x y _ hE1 hq1).mono ?_
  rintro e w2 ⟨rfl, b2⟩
  have HB2 := HB.kept b2
  have c0 := HB2.cv 0 (.int .i64 x) rfl
  have c1 := HB2.cv 1 (.int .i64 y) rfl
  have e1 : (x == x) = true := by simp
  have e2 : (y == y) = true := by simp
  go_wp2
  go_ret
  exact ⟨rfl, hb0.trans (b2.mono hb0.size)⟩

theorem placed_any (er : Value) (x y : Int) (w : World) (hE : HasErr w) (h : ErrAs w er x y) : Calls Tryd.prog 8 #[er, .agg (ftC x y)] w fun e w' => e = .returned (.bool true) ∧ Below w.heap.size w w' := by
  rcases h with ⟨rfl, rfl, rfl⟩ | ⟨_, q, rfl, hf⟩
  · exact placed_nil w
  · exact placed_at q x y w hE hf

end Go.Proofs.YtdceggekhhflgaaDoor
