/- tag.Stack and the reference's Stack at every list; nothing that was there is changed. -/
import Derived.Test.YtdceggekhhflgaaDoorTagParts
namespace Go.Proofs.YtdceggekhhflgaaDoor
open Go.RowKit

/-- Where a list of tags lies. -/
def TagsAt (w : World) (b lo : Nat) (l : List Tg) : Prop :=
  ∀ j (hj : j < l.length), w.cell? ⟨b, lo + j * 4, none⟩ = some (.bool l[j].s) ∧ w.cell? ⟨b, lo + j * 4 + 1, none⟩ = some (.int .i64 l[j].p) ∧ w.cell? ⟨b, lo + j * 4 + 2, none⟩ = some (.bool l[j].d) ∧ w.cell? ⟨b, lo + j * 4 + 3, none⟩ = some (.int .i64 l[j].v)

/-- A slice value that holds a list of tags. -/
def TagsIn (w : World) (a : Option Addr) (l : List Tg) : Prop := l = [] ∨ ∃ b lo, a = some ⟨b, lo, none⟩ ∧ b < w.heap.size ∧ TagsAt w b lo l

theorem TagsAt.below {w w' : World} {b lo : Nat} {l : List Tg} (h : TagsAt w b lo l) (hb : Below w.heap.size w w') (hlt : b < w.heap.size) : TagsAt w' b lo l := by
  intro j hj
  obtain ⟨h0, h1, h2, h3⟩ := h j hj
  exact ⟨(hb.cell hlt).trans h0, (hb.cell hlt).trans h1, (hb.cell hlt).trans h2, (hb.cell hlt).trans h3⟩

theorem TagsIn.below {w w' : World} {a : Option Addr} {l : List Tg} (h : TagsIn w a l) (hb : Below w.heap.size w w') : TagsIn w' a l := by
  rcases h with h | ⟨b, lo, ha, hlt, h⟩
  · exact Or.inl h
  · exact Or.inr ⟨b, lo, ha, Nat.lt_of_lt_of_le hlt hb.size, h.below hb hlt⟩

/-- Whether tags may stand on a frame. -/
def stackB (l : List Tg) : Bool := l.all okT && (match l with
  | [] => true
  | [_] => true
  | [a, b] => a.s && !b.s
  | _ => false)

theorem okT_at {l : List Tg} (h : l.all okT = true) (k : Nat) (hk : k < l.length) : okT l[k] = true := List.all_eq_true.1 h _ (List.getElem_mem hk)

theorem below_next {w w1 w2 : World} (h : Below w.heap.size w w1) (k : Below w1.heap.size w1 w2) : Below w.heap.size w w2 := h.trans (k.mono h.size)

theorem stack_long (l : List Tg) (h : 2 < l.length) : stackB l = false := by
  match l, h with
  | _ :: _ :: _ :: _, _ => simp [stackB]

theorem stack_not {l : List Tg} (k : Nat) (hk : k < l.length) (h : okT l[k] = false) : stackB l = false := by
  have : l.all okT = false := by
    rw [List.all_eq_false]
    exact ⟨l[k], List.getElem_mem hk, by simp [h]⟩
  simp [stackB, this]

theorem short_list (l : List Tg) (h : ¬ 2 < l.length) : l = [] ∨ (∃ x, l = [x]) ∨ ∃ x y, l = [x, y] := by
  match l, h with
  | [], _ => exact Or.inl rfl
  | [x], _ => exact Or.inr (Or.inl ⟨x, rfl⟩)
  | [x, y], _ => exact Or.inr (Or.inr ⟨x, y, rfl⟩)
  | _ :: _ :: _ :: _, h => simp at h



end Go.Proofs.YtdceggekhhflgaaDoor
