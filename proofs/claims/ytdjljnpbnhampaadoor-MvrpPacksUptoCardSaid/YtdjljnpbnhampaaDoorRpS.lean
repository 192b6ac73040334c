/- The reference's VIDs with their events: rows of one's own. -/
import Derived.Test.YtdjljnpbnhampaaDoorPrS
import Derived.Test.YtdjljnpbnhampaaDoorCells
import Derived.Test.YtdjljnpbnhampaaDoorFits
import Derived.Test.YtdjljnpbnhampaaDoorStOp
import Derived.Deep.AppendLies
import Derived.Deep.RegionHeld3
import Derived.Great.BuildSlice
namespace Go.Proofs.YtdjljnpbnhampaaDoor
open Go.RowKit
attribute [local go_sem ↓] Go.wp_at_zero Go.wp_at_succ
set_option linter.unusedSimpArgs false
set_option linter.unusedVariables false
set_option maxRecDepth 100000

theorem Tryd.rpZero : (Tryd.prog.info? 83).map (·.zero) = some (some (.agg (prC zPr))) := by kernel_rfl

def OwnRp (w : World) (base : Nat) (v : Value) (l : List Pr) : Prop := (l = [] ∧ v = .slice none 0 0) ∨ (l ≠ [] ∧ ∃ g cap, v = .slice (some ⟨g, 0, none⟩) l.length cap ∧ w.ownsRow base 83 2 v l.length (prR l))

theorem OwnRp.nil (w : World) (base : Nat) : OwnRp w base (.slice none 0 0) [] := Or.inl ⟨rfl, rfl⟩

theorem OwnRp.kept {w w' : World} {base : Nat} {v : Value} {l : List Pr} (h : OwnRp w base v l) (hb : Below w.heap.size w w') : OwnRp w' base v l := by
  rcases h with h | ⟨h1, g, cap, rfl, h2⟩
  · exact Or.inl h
  · exact Or.inr ⟨h1, g, cap, rfl, h2.kept (show w.grownBy w' none from ⟨hb.os, hb.tape, hb.output, hb.size, fun k hk _ => hb.block k hk⟩) (Or.inr (by simp [Value.ownBlock]))⟩

theorem OwnRp.alloc {w : World} {base : Nat} {v : Value} {l : List Pr} (h : OwnRp w base v l) (o : Obj) : OwnRp (w.alloc o) base v l := h.kept ((Below.refl _ _).alloc (Nat.le_refl _) o)

theorem OwnRp.inL {w : World} {base : Nat} {v : Value} {l : List Pr} (h : OwnRp w base v l) : ∃ a c, v = .slice a l.length c ∧ PrIn w a l := by
  rcases h with ⟨rfl, rfl⟩ | ⟨h1, g, cap, rfl, h2⟩
  · exact ⟨none, 0, rfl, Or.inl rfl⟩
  · exact ⟨some ⟨g, 0, none⟩, cap, rfl, Or.inr ⟨g, 0, rfl, (h2.lt g rfl).2, pr_own rfl h2⟩⟩

/-- Another block is written. -/
theorem OwnRp.grown {w w' : World} {base : Nat} {v : Value} {l : List Pr} {row : Option Nat} (h : OwnRp w base v l) (hg : w.grownBy w' row) (hr : ∀ g, row = some g → g < base) : OwnRp w' base v l := by
  rcases h with h | ⟨h1, g, cap, rfl, h2⟩
  · exact Or.inl h
  · refine Or.inr ⟨h1, g, cap, rfl, h2.kept hg ?_⟩
    right
    intro e
    have h3 := (h2.lt g rfl).1
    have := hr g (by rw [← e]; simp [Value.ownBlock])
    omega

theorem OwnRp.mono {w : World} {base B : Nat} {v : Value} {l : List Pr} (h : OwnRp w base v l) (hB : B ≤ base) : OwnRp w B v l := by
  rcases h with h | ⟨h1, g, cap, rfl, h2, h3⟩
  · exact Or.inl h
  · refine Or.inr ⟨h1, g, cap, rfl, h2, ?_⟩
    rcases h3 with h3 | ⟨g', cap', cur, e1, e2, e3⟩
    · exact Or.inl h3
    · exact Or.inr ⟨g', cap', cur, e1, Nat.le_trans hB e2, e3⟩

/-- Its block. -/
theorem OwnRp.blk {w : World} {base : Nat} {v : Value} {l : List Pr} (h : OwnRp w base v l) : v.ownBlock = none ∨ ∃ g C, v.ownBlock = some g ∧ base ≤ g ∧ Blk w g 83 C := by
  rcases h with ⟨rfl, rfl⟩ | ⟨h1, g, cap, rfl, h2⟩
  · exact Or.inl rfl
  · rcases h2.2 with ⟨h3, -⟩ | ⟨g1, cap1, cur1, e1, e2, e3, -⟩
    · cases h3
    · cases e1
      exact Or.inr ⟨g, cur1, rfl, e2, e3⟩

/-- A block of another type is written. -/
theorem OwnRp.other {w w' : World} {base B : Nat} {v : Value} {l : List Pr} {T : TypeId} {C : Array Value} (h : OwnRp w base v l) (hB : Blk w B T C) (hT : T ≠ 83) (hg : w.grownBy w' (some B)) : OwnRp w' base v l := by
  have hb := h.blk
  rcases h with h | ⟨h1, g, cap, rfl, h2⟩
  · exact Or.inl h
  · refine Or.inr ⟨h1, g, cap, rfl, h2.kept hg ?_⟩
    right
    intro e
    rcases hb with hb | ⟨g1, C1, e1, e2, e3⟩
    · rw [hb] at e; cases e
    · rw [e1] at e
      cases e
      have h3 : w.heap[B]? = some (.cells C T (0, 0)) := hB
      have h4 : w.heap[B]? = some (.cells C1 83 (0, 0)) := e3
      rw [h3] at h4
      injection h4 with h4
      injection h4 with _ h5
      exact hT h5

theorem Tryd.rpParts : (Tryd.prog.info? 83).map (fun i => (i.zero, i.size, i.bytes)) = some (some (.agg (prC zPr)), 2, 16) := by kernel_rfl

theorem fill_rp (v : Pr) : Instr.fill (fun i => some (i * 2, 2)) ((Array.range (1 * 2)).map ((Value.agg (prC zPr)).cells[· % (Value.agg (prC zPr)).cells.size]!)) [(0, .agg (prC v))] = some (prC v) := by kernel_rfl

/-- One comes behind. -/
theorem append_rp {o : Oper} {a : Act} {w : World} {K : Act → World → Prop} {Q : Exit → Act → World → Prop} {s x : Operand} {base G : Nat} {v : Value} {l : List Pr} (y : Pr)
    (ho : o.op = .call { callee := .builtin .append, args := #[s, x], argTypes := #[77, 77] }) (hs : a.eval s = v) (hx : a.eval x = .slice (some ⟨G, 0, none⟩) 1 1)
    (hO : OwnRp w base v l) (hG : Blk w G 83 (prC y)) (hlen : l.length ≤ 100000) (hbase : base ≤ w.heap.size)
    (h : ∀ v' w', OwnRp w' base v' (l ++ [y]) → Below base w w' → w.grownBy w' v.ownBlock → K (a.put o.dst v') w') : Oper.wp Tryd.prog o a w K Q := by
  obtain ⟨i0, hi, hz0, hz1, hz2⟩ := info_parts Tryd.rpParts
  have hnews : ∀ (j : Nat) u, (prC y).toList[j]? = some u → w.cell? ((⟨G, 0, none⟩ : Addr).add j) = some u := fun j u hu => by
    rw [Addr.add_lit, Nat.zero_add]
    exact hG.cv j u (by simpa using hu)
  rcases hO with ⟨rfl, rfl⟩ | ⟨hne, g, cap, rfl, hown⟩
  · refine wp_append_lies w s x _ ho base 83 i0 (.agg (prC zPr)) 2 16 Tryd.underlying77 hi hz0 hz1 hz2 rfl (by decide) (.slice none 0 0) 0 [] hs (World.ownsRow_nil w base _ 2) ⟨G, 0, none⟩ 1 1 (prC y).toList hx rfl hnews (prC_cells y) (by decide) (by unfold maxLen; omega) (by decide) hbase _ rfl ?_
    intro g cap w' hown hgrow hat hlt
    refine h _ _ (Or.inr ⟨by simp, g, cap, rfl, ?_⟩) ((Below.refl base w).grown hgrow hbase (fun q hq => by simp [Value.ownBlock] at hq)) hgrow
    rw [List.nil_append, prR_one]
    exact hown
  · have hown' := hown
    refine wp_append_lies w s x _ ho base 83 i0 (.agg (prC zPr)) 2 16 Tryd.underlying77 hi hz0 hz1 hz2 rfl (by decide) (.slice (some ⟨g, 0, none⟩) l.length cap) l.length (prR l) hs hown ⟨G, 0, none⟩ 1 1 (prC y).toList hx rfl hnews (prC_cells y) (by decide) (by unfold maxLen; omega) (by omega) hbase _ rfl ?_
    intro g' cap' w' hown2 hgrow hat hlt
    obtain ⟨cur, hB, hge⟩ : ∃ cur, Blk w g 83 cur ∧ base ≤ g := by
      rcases hown'.2 with ⟨h1, -⟩ | ⟨g1, cap1, cur1, e1, e2, e3, -⟩
      · cases h1
      · cases e1
        exact ⟨cur1, e3, e2⟩
    refine h _ _ (Or.inr ⟨by simp, g', cap', by rw [List.length_append]; rfl, ?_⟩) ((Below.refl base w).grown hgrow hbase (fun q hq => by cases hq; exact hge)) hgrow
    rw [prR_snoc, List.length_append]
    exact hown2

/-- Of one alone. -/
theorem slice_rp {o : Oper} {a : Act} {w : World} {K : Act → World → Prop} {Q : Exit → Act → World → Prop} {x : Operand} (y : Pr) (ho : o.op = .buildSlice 77 1 #[(0, x)]) (hx : a.eval x = .agg (prC y))
    (h : ∀ w1, Blk w1 w.heap.size 83 (prC y) → Below w.heap.size w w1 → w.heap.size < w1.heap.size → K (a.put o.dst (.slice (some ⟨w.heap.size, 0, none⟩) 1 1)) w1) : Oper.wp Tryd.prog o a w K Q := by
  obtain ⟨i0, hi, hz0, hz1, hz2⟩ := info_parts Tryd.rpParts
  refine wp_buildSlice 77 83 1 _ ho (prC y) i0 (.agg (prC zPr)) Tryd.underlying77 hi hz0 (by rw [hz1]; decide) (by rw [hz1]; decide) (by rw [hz1]; simp only [List.map_toArray, List.map_cons, List.map_nil, hx]; exact fill_rp y) (h _ (Blk.new w _ _) ((Below.refl _ _).alloc (Nat.le_refl _) _) (Blk.new w _ _).lt)

theorem sliceL_rp {ops : Array Oper} {rest : List Oper} {o : Oper} {a : Act} {w : World} {Q : Exit → Act → World → Prop} {x : Operand} (y : Pr) (hg : o.guard = none) (ho : o.op = .buildSlice 77 1 #[(0, x)]) (hx : a.eval x = .agg (prC y))
    (h : ∀ w1, Blk w1 w.heap.size 83 (prC y) → Below w.heap.size w w1 → w.heap.size < w1.heap.size → wpList Tryd.prog ops Q rest (a.put o.dst (.slice (some ⟨w.heap.size, 0, none⟩) 1 1)) w1) : wpList Tryd.prog ops Q (o :: rest) a w :=
  wpList_plain hg fun _ hK => slice_rp y ho hx fun w1 hB hb hs => hK _ _ (h w1 hB hb hs)

theorem appendL_rp {ops : Array Oper} {rest : List Oper} {o : Oper} {a : Act} {w : World} {Q : Exit → Act → World → Prop} {s x : Operand} {base G : Nat} {v : Value} {l : List Pr} (y : Pr) (hg : o.guard = none)
    (ho : o.op = .call { callee := .builtin .append, args := #[s, x], argTypes := #[77, 77] }) (hs : a.eval s = v) (hx : a.eval x = .slice (some ⟨G, 0, none⟩) 1 1)
    (hO : OwnRp w base v l) (hG : Blk w G 83 (prC y)) (hlen : l.length ≤ 100000) (hbase : base ≤ w.heap.size)
    (h : ∀ v' w', OwnRp w' base v' (l ++ [y]) → Below base w w' → w.grownBy w' v.ownBlock → wpList Tryd.prog ops Q rest (a.put o.dst v') w') : wpList Tryd.prog ops Q (o :: rest) a w :=
  wpList_plain hg fun _ hK => append_rp y ho hs hx hO hG hlen hbase fun v' w' h1 h2 h3 => hK _ _ (h v' w' h1 h2 h3)

end Go.Proofs.YtdjljnpbnhampaaDoor
