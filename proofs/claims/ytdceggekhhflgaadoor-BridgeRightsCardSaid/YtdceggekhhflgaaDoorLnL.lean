/- Look and Len of a table, the program's and the reference's. -/
import Derived.Test.YtdceggekhhflgaaDoorLnB
namespace Go.Proofs.YtdceggekhhflgaaDoor
open Go.RowKit
open Go.Shelf
attribute [local go_sem ↓] Go.wp_at_zero Go.wp_at_succ
set_option linter.unusedSimpArgs false
set_option linter.unusedVariables false
set_option maxRecDepth 100000

def matchE (age vid : Int) (a : Nat → Nat) (now : Int) (e : Ent) : Bool := keyE vid a e && aliveE age now e

theorem look_at {age vid : Int} {a : Nat → Nat} {now : Int} {l : List Ent} {k : Nat} {x : Ent} (h : ∀ y ∈ l.take k, matchE age vid a now y = false) (hx : l[k]? = some x) (hm : matchE age vid a now x = true) : lookM age l vid a now = x.port := by
  obtain ⟨hk, e⟩ := List.getElem?_eq_some_iff.1 hx
  have hl : l = l.take k ++ x :: l.drop (k + 1) := by rw [← e, ← List.drop_eq_getElem_cons hk, List.take_append_drop]
  have h1 : (l.take k).find? (fun e => keyE vid a e && aliveE age now e) = none := List.find?_eq_none.2 fun y hy => by
    have := h y hy
    unfold matchE at this
    simp [this]
  unfold lookM
  rw [hl, List.find?_append, h1, Option.none_or, List.find?_cons]
  unfold matchE at hm
  rw [hm]
  rfl

theorem look_none {age vid : Int} {a : Nat → Nat} {now : Int} {l : List Ent} (h : ∀ y ∈ l, matchE age vid a now y = false) : lookM age l vid a now = -1 := by
  unfold lookM
  have h1 : l.find? (fun e => keyE vid a e && aliveE age now e) = none := List.find?_eq_none.2 fun y hy => by
    have := h y hy
    unfold matchE at this
    simp [this]
  rw [h1]
  rfl

theorem snoc_all {p : Ent → Bool} {l : List Ent} {k : Nat} {x : Ent} (h : ∀ y ∈ l.take k, p y = false) (hx : l[k]? = some x) (hp : p x = false) : ∀ y ∈ l.take (k + 1), p y = false := by
  intro y hy
  rw [List.take_add_one, hx] at hy
  rcases List.mem_append.1 hy with q | q
  · exact h y q
  · rw [List.mem_singleton.1 q]; exact hp

theorem snoc_count {p : Ent → Bool} {l : List Ent} {k : Nat} {x : Ent} (hx : l[k]? = some x) : (l.take (k + 1)).countP p = (l.take k).countP p + if p x then 1 else 0 := by
  rw [List.take_add_one, hx, List.countP_append]
  simp [List.countP_cons]





end Go.Proofs.YtdceggekhhflgaaDoor
