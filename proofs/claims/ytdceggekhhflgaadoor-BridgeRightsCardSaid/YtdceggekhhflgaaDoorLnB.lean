/- package learn: the table, remove, New, Look, Len, Forget; mac.Group. -/
import Derived.Test.YtdceggekhhflgaaDoorLnA
import Derived.Laws.Externs
import Derived.Laws.Entries
import Derived.Laws.BitsAllLaws
namespace Go.Proofs.YtdceggekhhflgaaDoor
open Go.RowKit
open Go.Shelf
attribute [local go_sem ↓] Go.wp_at_zero Go.wp_at_succ
set_option linter.unusedSimpArgs false
set_option linter.unusedVariables false
set_option maxRecDepth 100000

/-- A table in memory, its blocks from B on. -/
structure Tab (w : World) (B t : Nat) (age last : Int) (l : List Ent) : Prop where
  row : ∃ v, Blk w t 69 (tabC age last v) ∧ RowE w B 124 v l
  lo : B ≤ t
  ok : OkL l
  a0 : 1 ≤ age
  a1 : age ≤ 300
  l0 : 0 ≤ last
  l1 : last ≤ 1099511627776

abbrev LT : List TypeId := [69, 124]

theorem Tab.lx {w w' : World} {B t B' : Nat} {age last : Int} {l : List Ent} {TS : List TypeId} (h : Tab w B t age last l) (hx : Lx B' TS w w') (h1 : 69 ∉ TS) (h2 : 124 ∉ TS) : Tab w' B t age last l := by
  obtain ⟨v, hb, hr⟩ := h.row
  exact ⟨⟨v, hx.blk hb h1, hr.lx hx h2⟩, h.lo, h.ok, h.a0, h.a1, h.l0, h.l1⟩

theorem Tab.kept {w w' : World} {B t : Nat} {age last : Int} {l : List Ent} (h : Tab w B t age last l) (hb : Below w.heap.size w w') : Tab w' B t age last l := h.lx (B' := 0) (TS := []) (Lx.of hb) (by simp) (by simp)

theorem one_bit' : ∀ y : Nat, y < 256 → bits .and .u8 (y : Int) 1 = ((y % 2 : Nat) : Int) := by decide +kernel







/-- New, of an age that may be. -/
theorem new_ok (age : Int) (w : World) (h0 : 1 ≤ age) (h1 : age ≤ 300) :
    Calls Tryd.prog 22 #[.int .i64 age] w fun e w' => e = .returned (.tuple #[.pointer (some ⟨w.heap.size, 0, none⟩), .nilIface]) ∧ Tab w' w.heap.size w.heap.size age 0 [] ∧ Below w.heap.size w w' ∧ w.heap.size < w'.heap.size := by
  have d1 : decide (age < 1) = false := decide_eq_false (by omega)
  have d2 : decide ((300 : Int) < age) = false := decide_eq_false (by omega)
  have HB := Lib.hid (Blk.new w 69 (tabC age 0 (.slice none 0 0)))
  have hb0 : Below w.heap.size w (w.alloc (.cells (tabC age 0 (.slice none 0 0)) 69)) := (Below.refl _ _).alloc (Nat.le_refl _) _
  have HB0 := Lib.hid hb0
  clear hb0
  go_enter Tryd.func22, Tryd.ntmps22
  go_wp2
  go_ret2
  exact ⟨rfl, ⟨⟨_, HB.out, RowE.nil _ _ _⟩, Nat.le_refl _, OkL.nil, h0, h1, by decide, by decide⟩, HB0.out, HB.out.lt⟩

theorem new_bad (age : Int) (w : World) (h : age < 1 ∨ 300 < age) :
    Calls Tryd.prog 22 #[.int .i64 age] w fun e w' => e = .returned (.tuple #[.pointer none, .iface 28 (.int .i64 2)]) ∧ w = w' := by
  by_cases h0 : age < 1
  · have d1 : decide (age < 1) = true := decide_eq_true h0
    clear h
    go_enter Tryd.func22, Tryd.ntmps22
    go_wp2
    go_ret2
    exact ⟨rfl, rfl⟩
  · have d1 : decide (age < 1) = false := decide_eq_false h0
    have d2 : decide ((300 : Int) < age) = true := decide_eq_true (by omega)
    clear h
    go_enter Tryd.func22, Tryd.ntmps22
    go_wp2
    go_ret2
    exact ⟨rfl, rfl⟩

end Go.Proofs.YtdceggekhhflgaaDoor
