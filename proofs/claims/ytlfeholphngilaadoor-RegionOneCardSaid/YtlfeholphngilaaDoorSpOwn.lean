/- Rows of spans of one's own: made by append, a span's end stored anew. -/
import Derived.Test.YtlfeholphngilaaDoorSpan
import Derived.Test.YtlfeholphngilaaDoorSpanL
import Derived.Test.YtlfeholphngilaaDoorStOp
import Derived.Deep.AppendLies
import Derived.Deep.RegionHeld3
namespace Go.Proofs.YtlfeholphngilaaDoor
open Go.RowKit
set_option linter.unusedSimpArgs false
set_option linter.unusedVariables false
set_option maxRecDepth 100000

/-- The cells of spans, one behind the other. -/
def spL (l : List Sp) : List Value := l.flatMap fun v => (spC v).toList
theorem spL_cons (v : Sp) (l : List Sp) : spL (v :: l) = (spC v).toList ++ spL l := by simp [spL]
theorem spL_append (l m : List Sp) : spL (l ++ m) = spL l ++ spL m := by simp [spL]
theorem spL_one (v : Sp) : spL [v] = (spC v).toList := by simp [spL]
theorem spC_len (v : Sp) : (spC v).toList.length = 3 := rfl
theorem spL_len (l : List Sp) : (spL l).length = l.length * 3 := by
  induction l with
  | nil => rfl
  | cons v l ih => rw [spL_cons, List.length_append, ih, spC_len, List.length_cons]; omega
theorem spL_get : ∀ (l : List Sp) (j : Nat) (hj : j < l.length) (k : Nat), k < 3 → (spL l)[j * 3 + k]? = (spC l[j])[k]?
  | [], j, hj, _, _ => by simp at hj
  | v :: l, 0, _, k, hk => by
    rw [spL_cons, List.getElem?_append_left (by rw [spC_len]; omega)]
    simp
  | v :: l, j + 1, hj, k, hk => by
    have ih := spL_get l j (by simpa using hj) k hk
    rw [spL_cons, List.getElem?_append_right (by rw [spC_len]; omega), spC_len, show (j + 1) * 3 + k - 3 = j * 3 + k by omega, ih]
    rfl
theorem spC_cells (v : Sp) : ∀ u ∈ (spC v).toList, u.oneCell' = true := by
  intro u hu
  simp only [spC, List.mem_cons, List.not_mem_nil, or_false] at hu
  rcases hu with rfl | rfl | rfl <;> rfl
theorem spL_cells (l : List Sp) : ∀ u ∈ spL l, u.oneCell' = true := by
  intro u hu
  unfold spL at hu
  obtain ⟨v, _, hv⟩ := List.mem_flatMap.1 hu
  exact spC_cells v u hv
theorem spAt_news {w : World} {b o : Nat} {l : List Sp} (h : SpAt w b o l) : ∀ (q : Nat) u, (spL l)[q]? = some u → w.cell? ((⟨b, o, none⟩ : Addr).add q) = some u := by
  intro q u hu
  have hq : q < l.length * 3 := by
    rw [← spL_len]
    exact (List.getElem?_eq_some_iff.1 hu).1
  have hj : q / 3 < l.length := by omega
  have e : q = q / 3 * 3 + q % 3 := by omega
  rw [e, spL_get l (q / 3) hj (q % 3) (by omega)] at hu
  have := h (q / 3) hj (q % 3) u hu
  rw [e, Addr.add_lit, ← Nat.add_assoc]
  exact this
theorem sp_own {w : World} {base g cap n : Nat} {T : TypeId} {l : List Sp} (hn : n = l.length) (h : w.ownsRow base T 3 (.slice (some ⟨g, 0, none⟩) n cap) n (spL l)) : SpAt w g 0 l := by
  subst hn
  intro j hj k c hc
  have hk : k < 3 := (Array.getElem?_eq_some_iff.1 hc).1
  have h2 := h.cellAt (j * 3 + k) (by omega)
  rw [spL_get l j hj k hk, hc] at h2
  rw [Nat.zero_add]
  exact h2
/-- A row of spans of one's own: none, or a block from base on. -/
def OwnV (w : World) (base : Nat) (v : Value) (l : List Sp) : Prop := (l = [] ∧ v = .slice none 0 0) ∨ (l ≠ [] ∧ ∃ g cap, v = .slice (some ⟨g, 0, none⟩) l.length cap ∧ w.ownsRow base 42 3 v l.length (spL l))
theorem OwnV.kept {w w' : World} {base : Nat} {v : Value} {l : List Sp} (h : OwnV w base v l) (hb : Below w.heap.size w w') : OwnV w' base v l := by
  rcases h with h | ⟨h1, g, cap, rfl, h2⟩
  · exact Or.inl h
  · exact Or.inr ⟨h1, g, cap, rfl, h2.kept (show w.grownBy w' none from ⟨hb.os, hb.tape, hb.output, hb.size, fun k hk _ => hb.block k hk⟩) (Or.inr (by simp [Value.ownBlock]))⟩
theorem OwnV.alloc {w : World} {base : Nat} {v : Value} {l : List Sp} (h : OwnV w base v l) (o : Obj) : OwnV (w.alloc o) base v l := h.kept ((Below.refl _ _).alloc (Nat.le_refl _) o)
theorem OwnV.inL {w : World} {base : Nat} {v : Value} {l : List Sp} (h : OwnV w base v l) : ∃ a c, v = .slice a l.length c ∧ SpIn w a l := by
  rcases h with ⟨rfl, rfl⟩ | ⟨h1, g, cap, rfl, h2⟩
  · exact ⟨none, 0, rfl, Or.inl rfl⟩
  · exact ⟨some ⟨g, 0, none⟩, cap, rfl, Or.inr ⟨g, 0, rfl, (h2.lt g rfl).2, sp_own rfl h2⟩⟩
/-- The last one's end is stored anew. -/
theorem own_store {w w' : World} {base g cap : Nat} {o : List Sp} {y : Sp} {t : Int} {cur : Array Value}
    (h : w.ownsRow base 42 3 (.slice (some ⟨g, 0, none⟩) (o ++ [y]).length cap) (o ++ [y]).length (spL (o ++ [y]))) (hg : Blk w g 42 cur)
    (hw : Blk w' g 42 (cur.setIfInBounds (o.length * 3 + 1) (.int .i64 t))) :
    w'.ownsRow base 42 3 (.slice (some ⟨g, 0, none⟩) (o ++ [(⟨y.f, t, y.i⟩ : Sp)]).length cap) (o ++ [(⟨y.f, t, y.i⟩ : Sp)]).length (spL (o ++ [(⟨y.f, t, y.i⟩ : Sp)])) := by
  obtain ⟨h0, h1⟩ := h
  have hl1 : (o ++ [y]).length = o.length + 1 := by simp
  have hl2 : (o ++ [(⟨y.f, t, y.i⟩ : Sp)]).length = o.length + 1 := by simp
  rw [hl1] at h1
  rw [hl2]
  refine ⟨by rw [spL_len, hl2], ?_⟩
  rcases h1 with ⟨h1, h2⟩ | ⟨g', cap', cur', e1, e2, e3, e4, e5, e6, e7⟩
  · cases h1
  · cases e1
    have ec : cur' = cur := by
      have q : w.heap[g]? = some (.cells cur 42 (0, 0)) := hg
      rw [q] at e3
      cases e3
      rfl
    subst ec
    refine Or.inr ⟨g, cap, _, rfl, e2, hw, e4, e5, by rw [Array.size_setIfInBounds]; exact e6, ?_⟩
    rw [Array.toList_setIfInBounds, List.take_set, e7, spL_append, spL_append, spL_one, spL_one, List.set_append_right _ _ (by rw [spL_len]; omega), spL_len, show o.length * 3 + 1 - o.length * 3 = 1 by omega]
    rfl
theorem own_blk {w : World} {base g cap : Nat} {l : List Sp} (h : w.ownsRow base 42 3 (.slice (some ⟨g, 0, none⟩) l.length cap) l.length (spL l)) : ∃ cur, Blk w g 42 cur ∧ l.length * 3 ≤ cur.size ∧ base ≤ g := by
  rcases h.2 with ⟨h1, -⟩ | ⟨g', cap', cur', e1, e2, e3, e4, e5, e6, e7⟩
  · cases h1
  · cases e1
    exact ⟨cur', e3, by rw [e6]; exact Nat.mul_le_mul_right 3 e4, e2⟩
theorem Tryd.spParts : (Tryd.prog.info? 42).map (fun i => (i.zero, i.size, i.bytes)) = some (some (.agg (spC zSp)), 3, 24) := by kernel_rfl
theorem least_snoc (l : List Sp) (k : Nat) (hk : k < l.length) : leastG [] (l.take (k + 1)) = extL (leastG [] (l.take k)) l[k] := by
  rw [List.take_add_one, List.getElem?_eq_getElem hk]
  exact leastG_snoc [] (l.take k) l[k]
theorem least_take_len (l : List Sp) (k : Nat) : (leastG [] (l.take k)).length ≤ k := by
  have h := leastG_len (l.take k) []
  have h2 := List.length_take_le k l
  simp only [List.length_nil, Nat.zero_add] at h
  omega

end Go.Proofs.YtlfeholphngilaaDoor
