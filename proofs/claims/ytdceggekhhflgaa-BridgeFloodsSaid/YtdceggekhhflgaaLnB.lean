/- package learn: the table, remove, New, Look, Len, Forget; mac.Group. -/
import Derived.Test.YtdceggekhhflgaaLnA
import Derived.Laws.Externs
import Derived.Laws.Entries
import Derived.Laws.BitsAllLaws
namespace Go.Proofs.Ytdceggekhhflgaa
open Go.RowKit
open Go.Shelf
attribute [local go_sem ↓] Go.wp_at_zero Go.wp_at_succ
set_option linter.unusedSimpArgs false
set_option linter.unusedVariables false
set_option maxRecDepth 100000
set_option linter.unusedSectionVars false
section
variable [Zone]

/-- A table in memory, its blocks from B on. -/
structure Tab (w : World) (B t : Nat) (age last : Int) (l : List Ent) : Prop where
  row : ∃ v, Blk w t 104 (tabC age last v) ∧ RowE w B 100 v l
  lo : Own B t
  ok : OkL l
  a0 : 1 ≤ age
  a1 : age ≤ 300
  l0 : 0 ≤ last
  l1 : last ≤ 1099511627776

abbrev LT : List TypeId := [104, 100]

theorem Tab.lx {w w' : World} {B t B' : Nat} {age last : Int} {l : List Ent} {TS : List TypeId} (h : Tab w B t age last l) (hx : Lx B' TS w w') (h1 : 104 ∉ TS) (h2 : 100 ∉ TS) : Tab w' B t age last l := by
  obtain ⟨v, hb, hr⟩ := h.row
  exact ⟨⟨v, hx.blk hb h1, hr.lx hx h2⟩, h.lo, h.ok, h.a0, h.a1, h.l0, h.l1⟩

theorem Tab.kept {w w' : World} {B t : Nat} {age last : Int} {l : List Ent} (h : Tab w B t age last l) (hb : Below w.heap.size w w') : Tab w' B t age last l := h.lx (B' := 0) (TS := []) (Lx.of hb) (by simp) (by simp)

theorem one_bit' : ∀ y : Nat, y < 256 → bits .and .u8 (y : Int) 1 = ((y % 2 : Nat) : Int) := by decide +kernel

theorem group6 (x : Nat → Nat) (hx : ∀ i, x i < 256) (w : World) :
    Calls Try.prog 40 #[.agg (c6 x)] w fun e w' => e = .returned (.bool (decide (x 0 % 2 = 1))) ∧ Below w.heap.size w w' := by
  have hb := one_bit' (x 0) (hx 0)
  have hB : Below w.heap.size w (w.alloc (.cells (c6 x) 33)) := (Below.refl _ _).alloc (Nat.le_refl _) _
  unfold c6 at *
  go_enter Try.func40, Try.ntmps40
  go_wp2
  go_ret
  refine ⟨?_, hB⟩
  show Ending.returned (Value.bool (((x 0 : Nat) : Int) % 2 == 1)) = _
  congr 2
  rw [Bool.eq_iff_iff]
  simp
  omega

set_option maxHeartbeats 3200000 in
theorem remove_any (g : Nat) (lb : Array Value) (p : Ent → Bool) (G : World → Prop) (eg : ∀ args w, (callFunc g args).run Try.prog w = .ok (.enter g args) w) (hp : PredE g lb p G)
    (hG : ∀ w w', G w → Lx 0 [100] w w' → G w') (B t : Nat) (age last : Int) (l : List Ent) (w : World) (h : Tab w B t age last l) (h0 : G w) (hB : Zone.up B ≤ w.heap.size) :
    Calls Try.prog 63 #[.pointer (some ⟨t, 0, none⟩), .func (.func g) #[] lb] w fun e w' => e = .returned (.tuple #[]) ∧ Tab w' B t age last (l.filter fun e => !p e) ∧ Lx B LT w w' := by
  obtain ⟨⟨v, hb, hr⟩, hlo, hok, ha0, ha1, hl0, hl1⟩ := h
  have HD := Lib.hid (deleteFunc_any g lb p G eg hp hG B v l w hr h0 hok.ok hok.len hB)
  obtain ⟨ad, c, rfl⟩ := hr.toA.form
  have c2 := hb.cv 2 (.slice ad l.length c) rfl
  clear hp hG hr
  go_enter Try.func63, Try.ntmps63
  go_wp2_with (first
    | (refine HD.out.mono ?_; rintro e w1 ⟨v1, rfl, hr1, hx1⟩; have hb1 := hx1.blk hb (by decide); obtain ⟨ad1, c1, rfl⟩ := hr1.toA.form)
    | (refine store_blk (B := t) (k := 2) 102 (.slice ad1 (l.filter fun e => !p e).length c1) (tabC age last (.slice ad1 (l.filter fun e => !p e).length c1)) (by rfl) rfl rfl rfl hb1 (by kernel_rfl) (show (3 : Nat) ≤ 3 from Nat.le_refl 3) (by rfl) rfl ?_; intro w2 hb2 bb2 g2))
  go_end0
  exact ⟨rfl, ⟨⟨_, hb2, hr1.other g2 hb1 (by decide)⟩, hlo, hok.filter _, ha0, ha1, hl0, hl1⟩, (hx1.mono (Nat.le_refl _) (by simp)).grown g2 hlo List.mem_cons_self hb1⟩

set_option maxHeartbeats 3200000 in
theorem forget_any (B t : Nat) (age last : Int) (l : List Ent) (port : Int) (w : World) (h : Tab w B t age last l) (hB : Zone.up B ≤ w.heap.size) :
    Calls Try.prog 38 #[.pointer (some ⟨t, 0, none⟩), .int .i64 port] w fun e w' => e = .returned (.tuple #[]) ∧ Tab w' B t age last (forgetM l port) ∧ Lx B LT w w' := by
  have hb0 : Below w.heap.size w (w.alloc (.cells #[.int .i64 port] 3)) := (Below.refl _ _).alloc (Nat.le_refl _) _
  have HR := Lib.hid (remove_any _ _ _ _ Try.enters_forget1 (forget1_any w.heap.size port) (fun w w' h hx => hx.blk h (by decide)) B t age last l _ (h.kept hb0) (Blk.new w 3 #[.int .i64 port]) (Nat.le_trans hB hb0.size))
  clear h
  go_enter Try.func38, Try.ntmps38
  go_wp2_with (refine HR.out.mono ?_; rintro e w1 ⟨rfl, ht1, hx1⟩)
  go_end0
  exact ⟨rfl, ht1, (Lx.of hb0).trans hx1⟩
end

/-- New, of an age that may be. -/
theorem new_ok (age : Int) (w : World) (h0 : 1 ≤ age) (h1 : age ≤ 300) :
    Calls Try.prog 50 #[.int .i64 age] w fun e w' => e = .returned (.tuple #[.pointer (some ⟨w.heap.size, 0, none⟩), .nilIface]) ∧ Tab w' w.heap.size w.heap.size age 0 [] ∧ Below w.heap.size w w' ∧ w.heap.size < w'.heap.size := by
  have d1 : decide (age < 1) = false := decide_eq_false (by omega)
  have d2 : decide ((300 : Int) < age) = false := decide_eq_false (by omega)
  have HB := Lib.hid (Blk.new w 104 (tabC age 0 (.slice none 0 0)))
  have hb0 : Below w.heap.size w (w.alloc (.cells (tabC age 0 (.slice none 0 0)) 104)) := (Below.refl _ _).alloc (Nat.le_refl _) _
  have HB0 := Lib.hid hb0
  clear hb0
  go_enter Try.func50, Try.ntmps50
  go_wp2
  go_ret2
  exact ⟨rfl, ⟨⟨_, HB.out, RowE.nil _ _ _⟩, ⟨Nat.le_refl _, fun q => q⟩, OkL.nil, h0, h1, by decide, by decide⟩, HB0.out, HB.out.lt⟩

theorem new_bad (age : Int) (w : World) (h : age < 1 ∨ 300 < age) :
    Calls Try.prog 50 #[.int .i64 age] w fun e w' => e = .returned (.tuple #[.pointer none, .iface 71 (.int .i64 2)]) ∧ w = w' := by
  by_cases h0 : age < 1
  · have d1 : decide (age < 1) = true := decide_eq_true h0
    clear h
    go_enter Try.func50, Try.ntmps50
    go_wp2
    go_ret2
    exact ⟨rfl, rfl⟩
  · have d1 : decide (age < 1) = false := decide_eq_false h0
    have d2 : decide ((300 : Int) < age) = true := decide_eq_true (by omega)
    clear h
    go_enter Try.func50, Try.ntmps50
    go_wp2
    go_ret2
    exact ⟨rfl, rfl⟩

end Go.Proofs.Ytdceggekhhflgaa
