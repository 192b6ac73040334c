/- Rows of records: many come behind. -/
import Derived.Test.YticjmjoiggnblaaDoorTlS
import Derived.Deep.AppendSrc
import Derived.Lib.AppendZeros
namespace Go.Proofs.YticjmjoiggnblaaDoor
open Go.RowKit
attribute [local go_sem ↓] Go.wp_at_zero Go.wp_at_succ
set_option linter.unusedSimpArgs false
set_option linter.unusedVariables false
set_option maxRecDepth 100000

/-- A row of one's own, made or not; it may be empty. -/
def RowTl (w : World) (base : Nat) (v : Value) (l : List Tl) : Prop := (∃ a c, v = .slice a l.length c) ∧ w.ownsRow base 24 2 v l.length (tlR l)
theorem RowTl.inL {w : World} {base : Nat} {v : Value} {l : List Tl} (h : RowTl w base v l) : ∃ a c, v = .slice a l.length c ∧ TlIn w a l := by
  obtain ⟨⟨a, c, rfl⟩, h2⟩ := h
  refine ⟨a, c, rfl, ?_⟩
  rcases h2.2 with ⟨_, h3⟩ | ⟨g, cap, cur, e1, e2, e3, e4, e5, e6, e7⟩
  · exact Or.inl (List.eq_nil_of_length_eq_zero h3)
  · cases e1
    exact Or.inr ⟨g, 0, rfl, (Array.getElem?_eq_some_iff.1 e3).1, tl_own rfl h2⟩
theorem RowTl.kept {w w' : World} {base : Nat} {v : Value} {l : List Tl} (h : RowTl w base v l) (hb : Below w.heap.size w w') : RowTl w' base v l :=
  ⟨h.1, h.2.kept (show w.grownBy w' none from ⟨hb.os, hb.tape, hb.output, hb.size, fun k hk _ => hb.block k hk⟩) (by cases hv : v.ownBlock <;> simp)⟩
theorem OwnTl.row {w : World} {base : Nat} {v : Value} {l : List Tl} (h : OwnTl w base v l) : RowTl w base v l := by
  rcases h with ⟨rfl, rfl⟩ | ⟨h1, g, cap, rfl, h2⟩
  · exact ⟨⟨none, 0, rfl⟩, World.ownsRow_nil w base _ 2⟩
  · exact ⟨⟨_, _, rfl⟩, h2⟩
theorem RowTl.own {w : World} {base : Nat} {v : Value} {l : List Tl} (h : RowTl w base v l) (hv : l = [] → v = .slice none 0 0) : OwnTl w base v l := by
  by_cases hl : l = []
  · exact Or.inl ⟨hl, hv hl⟩
  · rcases h.2.2 with ⟨_, h3⟩ | ⟨g, cap, cur, e1, e2, e3, e4, e5, e6, e7⟩
    · exact absurd (List.eq_nil_of_length_eq_zero h3) hl
    · exact Or.inr ⟨hl, g, cap, e1, h.2⟩
set_option maxHeartbeats 1600000 in
/-- Many come behind. -/
theorem many_tl {o : Oper} {a : Act} {w : World} {K : Act → World → Prop} {Q : Exit → Act → World → Prop} {s x : Operand} {base : Nat} {v : Value} {l l2 : List Tl} {a2 : Option Addr} {c2 : Nat}
    (ho : o.op = .call { callee := .builtin .append, args := #[s, x], argTypes := #[22, 22] }) (hs : a.eval s = v) (hx : a.eval x = .slice a2 l2.length c2)
    (hO : RowTl w base v l) (hI : TlIn w a2 l2) (hlen : l.length + l2.length ≤ 100000) (hbase : base ≤ w.heap.size)
    (h : ∀ v' w', RowTl w' base v' (l ++ l2) → (l ++ l2 = [] → v' = v) → Below base w w' → w.grownBy w' v.ownBlock → K (a.put o.dst v') w') : Oper.wp Tryd.prog o a w K Q := by
  obtain ⟨i0, hi, hz0, hz1, hz2⟩ := info_parts Tryd.tlParts
  by_cases hl2 : l2 = []
  · subst hl2
    obtain ⟨⟨a1, c1, rfl⟩, hown⟩ := hO
    have hr : (Builtin.append_ #[22, 22] o.type #[.slice a1 l.length c1, .slice a2 0 c2]).run Tryd.prog w = .ok (.slice a1 l.length c1) w := by
      have hsrc : Src Tryd.prog i0.size 22 (.slice a2 0 c2) 0 [] w := by
        cases a2 with
        | none => exact Src.ofNil w Tryd.underlying22 c2
        | some ad => exact Src.ofSlice w Tryd.underlying22 ad 0 c2 [] (by simp) (fun j u hj => by simp at hj) (fun u hu => by cases hu)
      rcases hown.2 with ⟨e1, h3⟩ | ⟨g, cap, cur, e1, e2, e3, e4, e5, e6, e7⟩
      · simp only [Value.slice.injEq] at e1
        obtain ⟨rfl, e2, rfl⟩ := e1
        have hcl := hsrc.cells
        rw [e2]
        simp [Builtin.append_, run_underlying Tryd.underlying22, sizeOf, typeInfo, hi, Builtin.lenOf]
        cases a2 <;> simp [Builtin.firstCells] at hcl ⊢
        simp [hcl]
      · simp only [Value.slice.injEq] at e1
        obtain ⟨rfl, _, rfl⟩ := e1
        have h5 := run_append_room_src (P := Tryd.prog) w 22 22 o.type 24 i0 Tryd.underlying22 hi g 0 l.length c1 (.slice a2 0 c2) 0 [] hsrc (by omega) (fun j hj => by simp at hj) (fun j hj => by simp at hj)
        simpa [World.setCells] using h5
    refine Lib.wp_append_run w s x _ _ ho _ _ hs hx _ _ hr (h _ _ ?_ (fun _ => rfl) (Below.refl _ _) (World.grownBy.refl _ _))
    rw [List.append_nil]
    exact ⟨⟨a1, c1, rfl⟩, hown⟩
  · rcases hI with hI | ⟨b, lo, rfl, hb, hat⟩
    · exact absurd hI hl2
    have hpos : 0 < l2.length := List.length_pos_iff.2 hl2
    have hown := hO.2
    refine wp_append_lies w s x _ ho base 24 i0 (.agg (tlC zTl)) 2 24 Tryd.underlying22 hi hz0 hz1 hz2 rfl (by decide) v l.length (tlR l) hs hown ⟨b, lo, none⟩ l2.length c2 (tlR l2) hx (tlR_len l2) (tlAt_news hat) (tlR_cells l2) hpos (by unfold maxLen; omega) (by omega) hbase _ rfl ?_
    intro g cap w' hown2 hgrow hatg hlt
    refine h _ _ ⟨⟨_, _, by rw [List.length_append]⟩, ?_⟩ (fun q => absurd (List.append_eq_nil_iff.1 q).2 hl2) ((Below.refl base w).grown hgrow hbase (fun q hq => ?_)) hgrow
    · rw [tlR_append, List.length_append]
      exact hown2
    · rcases hown.2 with ⟨rfl, _⟩ | ⟨g1, cap1, cur1, rfl, e2, _⟩
      · simp [Value.ownBlock] at hq
      · simp [Value.ownBlock] at hq
        omega
theorem manyL_tl {ops : Array Oper} {rest : List Oper} {o : Oper} {a : Act} {w : World} {Q : Exit → Act → World → Prop} {s x : Operand} {base : Nat} {v : Value} {l l2 : List Tl} {a2 : Option Addr} {c2 : Nat} (hg : o.guard = none)
    (ho : o.op = .call { callee := .builtin .append, args := #[s, x], argTypes := #[22, 22] }) (hs : a.eval s = v) (hx : a.eval x = .slice a2 l2.length c2)
    (hO : RowTl w base v l) (hI : TlIn w a2 l2) (hlen : l.length + l2.length ≤ 100000) (hbase : base ≤ w.heap.size)
    (h : ∀ v' w', RowTl w' base v' (l ++ l2) → (l ++ l2 = [] → v' = v) → Below base w w' → w.grownBy w' v.ownBlock → wpList Tryd.prog ops Q rest (a.put o.dst v') w') : wpList Tryd.prog ops Q (o :: rest) a w :=
  wpList_plain hg fun _ hK => many_tl ho hs hx hO hI hlen hbase fun v' w' h1 h2 h3 h4 => hK _ _ (h v' w' h1 h2 h3 h4)

end Go.Proofs.YticjmjoiggnblaaDoor
