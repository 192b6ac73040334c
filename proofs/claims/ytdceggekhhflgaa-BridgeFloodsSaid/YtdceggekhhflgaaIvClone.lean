/- slices.Clone of ints. -/
import Derived.Test.YtdceggekhhflgaaIvS
import Derived.Deep.AppendSrc
import Derived.Lib.AppendZeros
namespace Go.Proofs.Ytdceggekhhflgaa
open Go.RowKit
attribute [local go_sem ↓] Go.wp_at_zero Go.wp_at_succ
set_option linter.unusedSimpArgs false
set_option linter.unusedVariables false
set_option maxRecDepth 100000

/-- A row of one's own, made or not; it may be empty. -/
def RowIv (w : World) (base : Nat) (v : Value) (l : List Int) : Prop := (∃ a c, v = .slice a l.length c) ∧ w.ownsRow base 3 1 v l.length (ivR l)

theorem RowIv.inL {w : World} {base : Nat} {v : Value} {l : List Int} (h : RowIv w base v l) : ∃ a c, v = .slice a l.length c ∧ IvIn w a l := by
  obtain ⟨⟨a, c, rfl⟩, h2⟩ := h
  refine ⟨a, c, rfl, ?_⟩
  rcases h2.2 with ⟨_, h3⟩ | ⟨g, cap, cur, e1, e2, e3, e4, e5, e6, e7⟩
  · exact Or.inl (List.eq_nil_of_length_eq_zero h3)
  · cases e1
    exact Or.inr ⟨g, 0, rfl, (Array.getElem?_eq_some_iff.1 e3).1, iv_own rfl h2⟩

theorem RowIv.kept {w w' : World} {base : Nat} {v : Value} {l : List Int} (h : RowIv w base v l) (hb : Below w.heap.size w w') : RowIv w' base v l :=
  ⟨h.1, h.2.kept (show w.grownBy w' none from ⟨hb.os, hb.tape, hb.output, hb.size, fun k hk _ => hb.block k hk⟩) (by cases hv : v.ownBlock <;> simp)⟩

theorem OwnIv.row {w : World} {base : Nat} {v : Value} {l : List Int} (h : OwnIv w base v l) : RowIv w base v l := by
  rcases h with ⟨rfl, rfl⟩ | ⟨h1, g, cap, rfl, h2⟩
  · exact ⟨⟨none, 0, rfl⟩, World.ownsRow_nil w base _ 1⟩
  · exact ⟨⟨_, _, rfl⟩, h2⟩

theorem RowIv.own {w : World} {base : Nat} {v : Value} {l : List Int} (h : RowIv w base v l) (hv : l = [] → v = .slice none 0 0) : OwnIv w base v l := by
  by_cases hl : l = []
  · exact Or.inl ⟨hl, hv hl⟩
  · rcases h.2.2 with ⟨_, h3⟩ | ⟨g, cap, cur, e1, e2, e3, e4, e5, e6, e7⟩
    · exact absurd (List.eq_nil_of_length_eq_zero h3) hl
    · exact Or.inr ⟨hl, g, cap, e1, h.2⟩

set_option maxHeartbeats 1600000 in
/-- Many come behind. -/
theorem many_iv {o : Oper} {a : Act} {w : World} {K : Act → World → Prop} {Q : Exit → Act → World → Prop} {s x : Operand} {base : Nat} {v : Value} {l l2 : List Int} {a2 : Option Addr} {c2 : Nat}
    (ho : o.op = .call { callee := .builtin .append, args := #[s, x], argTypes := #[57, 57] }) (hs : a.eval s = v) (hx : a.eval x = .slice a2 l2.length c2)
    (hO : RowIv w base v l) (hI : IvIn w a2 l2) (hlen : l.length + l2.length ≤ 100000) (hbase : base ≤ w.heap.size)
    (h : ∀ v' w', RowIv w' base v' (l ++ l2) → (l ++ l2 = [] → v' = v) → Below base w w' → w.grownBy w' v.ownBlock → K (a.put o.dst v') w') : Oper.wp Try.prog o a w K Q := by
  obtain ⟨i0, hi, hz0, hz1, hz2⟩ := info_parts Try.ivParts
  by_cases hl2 : l2 = []
  · subst hl2
    obtain ⟨⟨a1, c1, rfl⟩, hown⟩ := hO
    have hr : (Builtin.append_ #[57, 57] o.type #[.slice a1 l.length c1, .slice a2 0 c2]).run Try.prog w = .ok (.slice a1 l.length c1) w := by
      have hsrc : Src Try.prog i0.size 57 (.slice a2 0 c2) 0 [] w := by
        cases a2 with
        | none => exact Src.ofNil w Try.underlying57 c2
        | some ad => exact Src.ofSlice w Try.underlying57 ad 0 c2 [] (by simp) (fun j u hj => by simp at hj) (fun u hu => by cases hu)
      rcases hown.2 with ⟨e1, h3⟩ | ⟨g, cap, cur, e1, e2, e3, e4, e5, e6, e7⟩
      · simp only [Value.slice.injEq] at e1
        obtain ⟨rfl, e2, rfl⟩ := e1
        have hcl := hsrc.cells
        rw [e2]
        simp [Builtin.append_, run_underlying Try.underlying57, sizeOf, typeInfo, hi, Builtin.lenOf]
        cases a2 <;> simp [Builtin.firstCells] at hcl ⊢
        simp [hcl]
      · simp only [Value.slice.injEq] at e1
        obtain ⟨rfl, _, rfl⟩ := e1
        have h5 := run_append_room_src (P := Try.prog) w 57 57 o.type 3 i0 Try.underlying57 hi g 0 l.length c1 (.slice a2 0 c2) 0 [] hsrc (by omega) (fun j hj => by simp at hj) (fun j hj => by simp at hj)
        simpa [World.setCells] using h5
    refine Lib.wp_append_run w s x _ _ ho _ _ hs hx _ _ hr (h _ _ ?_ (fun _ => rfl) (Below.refl _ _) (World.grownBy.refl _ _))
    rw [List.append_nil]
    exact ⟨⟨a1, c1, rfl⟩, hown⟩
  · rcases hI with hI | ⟨b, lo, rfl, hb, hat⟩
    · exact absurd hI hl2
    have hpos : 0 < l2.length := List.length_pos_iff.2 hl2
    have hown := hO.2
    refine wp_append_lies w s x _ ho base 3 i0 (.int .i64 0) 1 8 Try.underlying57 hi hz0 hz1 hz2 rfl (by decide) v l.length (ivR l) hs hown ⟨b, lo, none⟩ l2.length c2 (ivR l2) hx (ivR_len l2) (ivAt_news hat) (ivR_cells l2) hpos (by unfold maxLen; omega) (by omega) hbase _ rfl ?_
    intro g cap w' hown2 hgrow hatg hlt
    refine h _ _ ⟨⟨_, _, by rw [List.length_append]⟩, ?_⟩ (fun q => absurd (List.append_eq_nil_iff.1 q).2 hl2) ((Below.refl base w).grown hgrow hbase (fun q hq => ?_)) hgrow
    · rw [ivR_append, List.length_append]
      exact hown2
    · rcases hown.2 with ⟨rfl, _⟩ | ⟨g1, cap1, cur1, rfl, e2, _⟩
      · simp [Value.ownBlock] at hq
      · simp [Value.ownBlock] at hq
        omega

theorem manyL_iv {ops : Array Oper} {rest : List Oper} {o : Oper} {a : Act} {w : World} {Q : Exit → Act → World → Prop} {s x : Operand} {base : Nat} {v : Value} {l l2 : List Int} {a2 : Option Addr} {c2 : Nat} (hg : o.guard = none)
    (ho : o.op = .call { callee := .builtin .append, args := #[s, x], argTypes := #[57, 57] }) (hs : a.eval s = v) (hx : a.eval x = .slice a2 l2.length c2)
    (hO : RowIv w base v l) (hI : IvIn w a2 l2) (hlen : l.length + l2.length ≤ 100000) (hbase : base ≤ w.heap.size)
    (h : ∀ v' w', RowIv w' base v' (l ++ l2) → (l ++ l2 = [] → v' = v) → Below base w w' → w.grownBy w' v.ownBlock → wpList Try.prog ops Q rest (a.put o.dst v') w') : wpList Try.prog ops Q (o :: rest) a w :=
  wpList_plain hg fun _ hK => many_iv ho hs hx hO hI hlen hbase fun v' w' h1 h2 h3 h4 => hK _ _ (h v' w' h1 h2 h3 h4)

set_option maxHeartbeats 3200000 in
theorem cloneIv_any (a : Option Addr) (c : Nat) (l : List Int) (w : World) (h : IvIn w a l) (hl : l.length ≤ 90000) :
    Calls Try.prog 49 #[.slice a l.length c] w fun e w' => (∃ v, e = .returned v ∧ RowIv w' w.heap.size v l) ∧ Below w.heap.size w w' := by
  cases a with
  | none =>
    have hl0 : l = [] := by
      rcases h with h | ⟨b, o, h, -⟩
      · exact h
      · cases h
    subst hl0
    have hnil : ∀ W, (binOp BinOp.eql 57 (.slice none 0 c) (.slice none 0 0)).run Try.prog W = .ok (.bool true) W := fun W => by kernel_rfl
    go_enter Try.func49, Try.ntmps49
    go_wp2
    go_ret
    exact ⟨⟨_, rfl, ⟨⟨none, 0, rfl⟩, World.ownsRow_nil w _ _ 1⟩⟩, Below.refl _ _⟩
  | some ad =>
    have hnil : ∀ W, (binOp BinOp.eql 57 (.slice (some ad) l.length c) (.slice none 0 0)).run Try.prog W = .ok (.bool false) W := fun W => by kernel_rfl
    have hown := World.ownsRow_made (base := w.heap.size) (e := 3) (size := 1) w #[] 0 (Nat.le_refl _) (by unfold maxLen; omega) rfl
    have B1 : Below w.heap.size w (w.alloc (.cells #[] 3)) := (Below.refl _ _).alloc (Nat.le_refl _) _
    have h1 := h.below B1
    have HR : RowIv (w.alloc (.cells #[] 3)) w.heap.size (.slice (some ⟨w.heap.size, 0, none⟩) 0 0) [] := ⟨⟨_, _, rfl⟩, hown⟩
    have hs1 : w.heap.size ≤ (w.alloc (.cells #[] 3)).heap.size := by simp
    clear hown
    go_enter Try.func49, Try.ntmps49
    go_wp2_with (refine manyL_iv (l := []) (l2 := l) rfl rfl rfl rfl HR h1 (by simp; omega) hs1 ?_; intro v2 w2 HR2 e2 b2 g2)
    go_ret
    rw [List.nil_append] at HR2
    exact ⟨⟨_, rfl, HR2⟩, B1.trans b2⟩

/-- A list of ints whose block is known, from B on. -/
def IvB (w : World) (B : Nat) (a : Option Addr) (l : List Int) : Prop := l = [] ∨ ∃ g o cur, a = some ⟨g, o, none⟩ ∧ B ≤ g ∧ Blk w g 3 cur ∧ IvAt w g o l

theorem IvB.inL {w : World} {B : Nat} {a : Option Addr} {l : List Int} (h : IvB w B a l) : IvIn w a l := by
  rcases h with h | ⟨g, o, cur, e1, _, e3, e4⟩
  · exact Or.inl h
  · exact Or.inr ⟨g, o, e1, e3.lt, e4⟩

theorem IvB.mono {w : World} {B B' : Nat} {a : Option Addr} {l : List Int} (h : IvB w B a l) (hB : B' ≤ B) : IvB w B' a l := by
  rcases h with h | ⟨g, o, cur, e1, e2, e3⟩
  · exact Or.inl h
  · exact Or.inr ⟨g, o, cur, e1, Nat.le_trans hB e2, e3⟩

theorem IvAt.blk {w w' : World} {g o : Nat} {l : List Int} (h : IvAt w g o l) (hb : w'.heap[g]? = w.heap[g]?) : IvAt w' g o l := fun j hj k c hc => (World.cell?_of_block (a := ⟨g, _, none⟩) hb).trans (h j hj k c hc)

theorem IvB.keep {w w' : World} {B : Nat} {a : Option Addr} {l : List Int} (h : IvB w B a l) (hk : ∀ g C, Blk w g 3 C → B ≤ g → w'.heap[g]? = w.heap[g]?) : IvB w' B a l := by
  rcases h with h | ⟨g, o, cur, q1, q2, q3, q4⟩
  · exact Or.inl h
  · exact Or.inr ⟨g, o, cur, q1, q2, (hk g cur q3 q2).trans q3, q4.blk (hk g cur q3 q2)⟩

theorem RowIv.toB {w : World} {B : Nat} {v : Value} {l : List Int} (h : RowIv w B v l) : ∃ a c, v = .slice a l.length c ∧ l.length ≤ c ∧ c ≤ maxLen ∧ IvB w B a l := by
  obtain ⟨⟨a, c, rfl⟩, h2⟩ := h
  rcases h2.2 with ⟨e, h3⟩ | ⟨g, cap, cur, e1, e2, e3, e4, e5, e6, e7⟩
  · simp only [Value.slice.injEq] at e
    obtain ⟨rfl, -, rfl⟩ := e
    exact ⟨none, 0, rfl, by omega, Nat.zero_le _, Or.inl (List.eq_nil_of_length_eq_zero h3)⟩
  · cases e1
    exact ⟨_, _, rfl, e4, e5, Or.inr ⟨g, 0, cur, rfl, e2, e3, iv_own rfl h2⟩⟩

end Go.Proofs.Ytdceggekhhflgaa
