/- Rows of ints of one's own. -/
import Derived.Test.YtdceggekhhflgaaCells
import Derived.Test.YtdceggekhhflgaaStOp
import Derived.Deep.AppendLies
import Derived.Deep.RegionHeld3
import Derived.Great.BuildSlice
namespace Go.Proofs.Ytdceggekhhflgaa
open Go.RowKit
attribute [local go_sem ↓] Go.wp_at_zero Go.wp_at_succ
set_option linter.unusedSimpArgs false
set_option linter.unusedVariables false
set_option maxRecDepth 100000

def ivC (x : Int) : Array Value := #[.int .i64 x]

def IvAt (w : World) (b o : Nat) (l : List Int) : Prop := ∀ j (hj : j < l.length), CellsAt w b (o + j * 1) (ivC l[j])

def IvIn (w : World) (a : Option Addr) (l : List Int) : Prop := l = [] ∨ ∃ b o, a = some ⟨b, o, none⟩ ∧ b < w.heap.size ∧ IvAt w b o l

theorem IvAt.below {w w' : World} {b o D : Nat} {l : List Int} (h : IvAt w b o l) (hb : Below D w w') (hB : b < D) : IvAt w' b o l := fun j hj => (h j hj).below hb hB

theorem IvIn.below {w w' : World} {a : Option Addr} {l : List Int} (h : IvIn w a l) (hb : Below w.heap.size w w') : IvIn w' a l := by
  rcases h with h | ⟨b, o, h1, h2, h3⟩
  · exact Or.inl h
  · exact Or.inr ⟨b, o, h1, Nat.lt_of_lt_of_le h2 hb.size, fun j hj => (h3 j hj).below hb h2⟩

theorem IvIn.drew {w : World} {a : Option Addr} {l : List Int} (h : IvIn w a l) : IvIn w.drew a l := h

theorem IvIn.at {w : World} {a : Option Addr} {l : List Int} (h : IvIn w a l) {k : Nat} (hk : k < l.length) : ∃ b o, a = some ⟨b, o, none⟩ ∧ b < w.heap.size ∧ IvAt w b o l := by
  rcases h with rfl | h
  · simp at hk
  · exact h

/-- A list that lay somewhere ahead lies there still. -/
theorem IvIn.late {w0 w w' : World} {a : Option Addr} {l : List Int} (h : IvIn w a l) (h0 : IvIn w0 a l) (hb : Below w0.heap.size w w') : IvIn w' a l := by
  rcases h with h | ⟨b, o, e1, e2, e3⟩
  · exact Or.inl h
  · rcases h0 with h0 | ⟨b0, o0, f1, f2, f3⟩
    · exact Or.inl h0
    · rw [e1] at f1
      cases f1
      exact Or.inr ⟨b, o, e1, Nat.lt_of_lt_of_le e2 hb.size, e3.below hb f2⟩

/-- The cells of numbers, one behind the other. -/
def ivR (l : List Int) : List Value := l.flatMap fun v => (ivC v).toList

theorem ivR_cons (v : Int) (l : List Int) : ivR (v :: l) = (ivC v).toList ++ ivR l := by simp [ivR]

theorem ivR_append (l m : List Int) : ivR (l ++ m) = ivR l ++ ivR m := by simp [ivR]

theorem ivR_one (v : Int) : ivR [v] = (ivC v).toList := by simp [ivR]

theorem ivC_len (v : Int) : (ivC v).toList.length = 1 := rfl

theorem ivR_len (l : List Int) : (ivR l).length = l.length * 1 := by
  induction l with
  | nil => rfl
  | cons v l ih => rw [ivR_cons, List.length_append, ih, ivC_len, List.length_cons]; omega

theorem ivR_get : ∀ (l : List Int) (j : Nat) (hj : j < l.length) (k : Nat), k < 1 → (ivR l)[j * 1 + k]? = (ivC l[j])[k]?
  | [], j, hj, _, _ => by simp at hj
  | v :: l, 0, _, k, hk => by
    rw [ivR_cons, List.getElem?_append_left (by rw [ivC_len]; omega)]
    simp
  | v :: l, j + 1, hj, k, hk => by
    have ih := ivR_get l j (by simpa using hj) k hk
    rw [ivR_cons, List.getElem?_append_right (by rw [ivC_len]; omega), ivC_len, show (j + 1) * 1 + k - 1 = j * 1 + k by omega, ih]
    rfl

theorem ivC_cells (v : Int) : ∀ u ∈ (ivC v).toList, u.oneCell' = true := by
  intro u hu
  simp only [ivC, List.mem_cons, List.not_mem_nil, or_false] at hu
  rcases hu with rfl <;> rfl

theorem ivR_cells (l : List Int) : ∀ u ∈ ivR l, u.oneCell' = true := by
  intro u hu
  unfold ivR at hu
  obtain ⟨v, _, hv⟩ := List.mem_flatMap.1 hu
  exact ivC_cells v u hv

theorem ivAt_news {w : World} {b o : Nat} {l : List Int} (h : IvAt w b o l) : ∀ (q : Nat) u, (ivR l)[q]? = some u → w.cell? ((⟨b, o, none⟩ : Addr).add q) = some u := by
  intro q u hu
  have hq : q < l.length * 1 := by
    rw [← ivR_len]
    exact (List.getElem?_eq_some_iff.1 hu).1
  have hj : q / 1 < l.length := by omega
  have e : q = q / 1 * 1 + q % 1 := by omega
  rw [e, ivR_get l (q / 1) hj (q % 1) (by omega)] at hu
  have := h (q / 1) hj (q % 1) u hu
  rw [e, Addr.add_lit, ← Nat.add_assoc]
  exact this

theorem iv_own {w : World} {base g cap n : Nat} {T : TypeId} {l : List Int} (hn : n = l.length) (h : w.ownsRow base T 1 (.slice (some ⟨g, 0, none⟩) n cap) n (ivR l)) : IvAt w g 0 l := by
  subst hn
  intro j hj k c hc
  have hk : k < 1 := (Array.getElem?_eq_some_iff.1 hc).1
  have h2 := h.cellAt (j * 1 + k) (by omega)
  rw [ivR_get l j hj k hk, hc] at h2
  rw [Nat.zero_add]
  exact h2

/-- A row of numbers of one's own: none, or a block from base on. -/
def OwnIv (w : World) (base : Nat) (v : Value) (l : List Int) : Prop := (l = [] ∧ v = .slice none 0 0) ∨ (l ≠ [] ∧ ∃ g cap, v = .slice (some ⟨g, 0, none⟩) l.length cap ∧ w.ownsRow base 3 1 v l.length (ivR l))

theorem OwnIv.nil (w : World) (base : Nat) : OwnIv w base (.slice none 0 0) [] := Or.inl ⟨rfl, rfl⟩

theorem OwnIv.kept {w w' : World} {base : Nat} {v : Value} {l : List Int} (h : OwnIv w base v l) (hb : Below w.heap.size w w') : OwnIv w' base v l := by
  rcases h with h | ⟨h1, g, cap, rfl, h2⟩
  · exact Or.inl h
  · exact Or.inr ⟨h1, g, cap, rfl, h2.kept (show w.grownBy w' none from ⟨hb.os, hb.tape, hb.output, hb.size, fun k hk _ => hb.block k hk⟩) (Or.inr (by simp [Value.ownBlock]))⟩

theorem OwnIv.alloc {w : World} {base : Nat} {v : Value} {l : List Int} (h : OwnIv w base v l) (o : Obj) : OwnIv (w.alloc o) base v l := h.kept ((Below.refl _ _).alloc (Nat.le_refl _) o)

theorem OwnIv.inL {w : World} {base : Nat} {v : Value} {l : List Int} (h : OwnIv w base v l) : ∃ a c, v = .slice a l.length c ∧ IvIn w a l := by
  rcases h with ⟨rfl, rfl⟩ | ⟨h1, g, cap, rfl, h2⟩
  · exact ⟨none, 0, rfl, Or.inl rfl⟩
  · exact ⟨some ⟨g, 0, none⟩, cap, rfl, Or.inr ⟨g, 0, rfl, (h2.lt g rfl).2, iv_own rfl h2⟩⟩

theorem ivR_snoc (l : List Int) (x : Int) : ivR (l ++ [x]) = ivR l ++ (ivC x).toList := by rw [ivR_append, ivR_one]

/-- Another block is written. -/
theorem OwnIv.grown {w w' : World} {base : Nat} {v : Value} {l : List Int} {row : Option Nat} (h : OwnIv w base v l) (hg : w.grownBy w' row) (hr : ∀ g, row = some g → g < base) : OwnIv w' base v l := by
  rcases h with h | ⟨h1, g, cap, rfl, h2⟩
  · exact Or.inl h
  · refine Or.inr ⟨h1, g, cap, rfl, h2.kept hg ?_⟩
    right
    intro e
    have h3 := (h2.lt g rfl).1
    have := hr g (by rw [← e]; simp [Value.ownBlock])
    omega

theorem OwnIv.mono {w : World} {base B : Nat} {v : Value} {l : List Int} (h : OwnIv w base v l) (hB : B ≤ base) : OwnIv w B v l := by
  rcases h with h | ⟨h1, g, cap, rfl, h2, h3⟩
  · exact Or.inl h
  · refine Or.inr ⟨h1, g, cap, rfl, h2, ?_⟩
    rcases h3 with h3 | ⟨g', cap', cur, e1, e2, e3⟩
    · exact Or.inl h3
    · exact Or.inr ⟨g', cap', cur, e1, Nat.le_trans hB e2, e3⟩

/-- Its block. -/
theorem OwnIv.blk {w : World} {base : Nat} {v : Value} {l : List Int} (h : OwnIv w base v l) : v.ownBlock = none ∨ ∃ g C, v.ownBlock = some g ∧ base ≤ g ∧ Blk w g 3 C := by
  rcases h with ⟨rfl, rfl⟩ | ⟨h1, g, cap, rfl, h2⟩
  · exact Or.inl rfl
  · rcases h2.2 with ⟨h3, -⟩ | ⟨g1, cap1, cur1, e1, e2, e3, -⟩
    · cases h3
    · cases e1
      exact Or.inr ⟨g, cur1, rfl, e2, e3⟩

/-- A block of another type is written. -/
theorem OwnIv.other {w w' : World} {base B : Nat} {v : Value} {l : List Int} {T : TypeId} {C : Array Value} (h : OwnIv w base v l) (hB : Blk w B T C) (hT : T ≠ 3) (hg : w.grownBy w' (some B)) : OwnIv w' base v l := by
  have hb := h.blk
  rcases h with h | ⟨h1, g, cap, rfl, h2⟩
  · exact Or.inl h
  · refine Or.inr ⟨h1, g, cap, rfl, h2.kept hg ?_⟩
    right
    intro e
    rcases hb with hb | ⟨g1, C1, e1, e2, e3⟩
    · rw [hb] at e; cases e
    · rw [e1] at e
      cases e
      have h3 : w.heap[B]? = some (.cells C T (0, 0)) := hB
      have h4 : w.heap[B]? = some (.cells C1 3 (0, 0)) := e3
      rw [h3] at h4
      injection h4 with h4
      injection h4 with _ h5
      exact hT h5

theorem Try.ivParts : (Try.prog.info? 3).map (fun i => (i.zero, i.size, i.bytes)) = some (some (.int .i64 0), 1, 8) := by kernel_rfl

theorem fill_iv (v : Int) : Instr.fill (fun i => some (i * 1, 1)) ((Array.range (1 * 1)).map ((Value.int .i64 0).cells[· % (Value.int .i64 0).cells.size]!)) [(0, .int .i64 v)] = some (ivC v) := by kernel_rfl

/-- One comes behind. -/
theorem append_iv {o : Oper} {a : Act} {w : World} {K : Act → World → Prop} {Q : Exit → Act → World → Prop} {s x : Operand} {base G : Nat} {v : Value} {l : List Int} (y : Int)
    (ho : o.op = .call { callee := .builtin .append, args := #[s, x], argTypes := #[57, 57] }) (hs : a.eval s = v) (hx : a.eval x = .slice (some ⟨G, 0, none⟩) 1 1)
    (hO : OwnIv w base v l) (hG : Blk w G 3 (ivC y)) (hlen : l.length ≤ 100000) (hbase : base ≤ w.heap.size)
    (h : ∀ v' w', OwnIv w' base v' (l ++ [y]) → Below base w w' → w.grownBy w' v.ownBlock → K (a.put o.dst v') w') : Oper.wp Try.prog o a w K Q := by
  obtain ⟨i0, hi, hz0, hz1, hz2⟩ := info_parts Try.ivParts
  have hnews : ∀ (j : Nat) u, (ivC y).toList[j]? = some u → w.cell? ((⟨G, 0, none⟩ : Addr).add j) = some u := fun j u hu => by
    rw [Addr.add_lit, Nat.zero_add]
    exact hG.cv j u (by simpa using hu)
  rcases hO with ⟨rfl, rfl⟩ | ⟨hne, g, cap, rfl, hown⟩
  · refine wp_append_lies w s x _ ho base 3 i0 (.int .i64 0) 1 8 Try.underlying57 hi hz0 hz1 hz2 rfl (by decide) (.slice none 0 0) 0 [] hs (World.ownsRow_nil w base _ 1) ⟨G, 0, none⟩ 1 1 (ivC y).toList hx rfl hnews (ivC_cells y) (by decide) (by unfold maxLen; omega) (by decide) hbase _ rfl ?_
    intro g cap w' hown hgrow hat hlt
    refine h _ _ (Or.inr ⟨by simp, g, cap, rfl, ?_⟩) ((Below.refl base w).grown hgrow hbase (fun q hq => by simp [Value.ownBlock] at hq)) hgrow
    rw [List.nil_append, ivR_one]
    exact hown
  · have hown' := hown
    refine wp_append_lies w s x _ ho base 3 i0 (.int .i64 0) 1 8 Try.underlying57 hi hz0 hz1 hz2 rfl (by decide) (.slice (some ⟨g, 0, none⟩) l.length cap) l.length (ivR l) hs hown ⟨G, 0, none⟩ 1 1 (ivC y).toList hx rfl hnews (ivC_cells y) (by decide) (by unfold maxLen; omega) (by omega) hbase _ rfl ?_
    intro g' cap' w' hown2 hgrow hat hlt
    obtain ⟨cur, hB, hge⟩ : ∃ cur, Blk w g 3 cur ∧ base ≤ g := by
      rcases hown'.2 with ⟨h1, -⟩ | ⟨g1, cap1, cur1, e1, e2, e3, -⟩
      · cases h1
      · cases e1
        exact ⟨cur1, e3, e2⟩
    refine h _ _ (Or.inr ⟨by simp, g', cap', by rw [List.length_append]; rfl, ?_⟩) ((Below.refl base w).grown hgrow hbase (fun q hq => by cases hq; exact hge)) hgrow
    rw [ivR_snoc, List.length_append]
    exact hown2

/-- Of one alone. -/
theorem slice_iv {o : Oper} {a : Act} {w : World} {K : Act → World → Prop} {Q : Exit → Act → World → Prop} {x : Operand} (y : Int) (ho : o.op = .buildSlice 57 1 #[(0, x)]) (hx : a.eval x = .int .i64 y)
    (h : ∀ w1, Blk w1 w.heap.size 3 (ivC y) → Below w.heap.size w w1 → w.heap.size < w1.heap.size → K (a.put o.dst (.slice (some ⟨w.heap.size, 0, none⟩) 1 1)) w1) : Oper.wp Try.prog o a w K Q := by
  obtain ⟨i0, hi, hz0, hz1, hz2⟩ := info_parts Try.ivParts
  refine wp_buildSlice 57 3 1 _ ho (ivC y) i0 (.int .i64 0) Try.underlying57 hi hz0 (by rw [hz1]; decide) (by rw [hz1]; decide) (by rw [hz1]; simp only [List.map_toArray, List.map_cons, List.map_nil, hx]; exact fill_iv y) (h _ (Blk.new w _ _) ((Below.refl _ _).alloc (Nat.le_refl _) _) (Blk.new w _ _).lt)

theorem sliceL_iv {ops : Array Oper} {rest : List Oper} {o : Oper} {a : Act} {w : World} {Q : Exit → Act → World → Prop} {x : Operand} (y : Int) (hg : o.guard = none) (ho : o.op = .buildSlice 57 1 #[(0, x)]) (hx : a.eval x = .int .i64 y)
    (h : ∀ w1, Blk w1 w.heap.size 3 (ivC y) → Below w.heap.size w w1 → w.heap.size < w1.heap.size → wpList Try.prog ops Q rest (a.put o.dst (.slice (some ⟨w.heap.size, 0, none⟩) 1 1)) w1) : wpList Try.prog ops Q (o :: rest) a w :=
  wpList_plain hg fun _ hK => slice_iv y ho hx fun w1 hB hb hs => hK _ _ (h w1 hB hb hs)

theorem appendL_iv {ops : Array Oper} {rest : List Oper} {o : Oper} {a : Act} {w : World} {Q : Exit → Act → World → Prop} {s x : Operand} {base G : Nat} {v : Value} {l : List Int} (y : Int) (hg : o.guard = none)
    (ho : o.op = .call { callee := .builtin .append, args := #[s, x], argTypes := #[57, 57] }) (hs : a.eval s = v) (hx : a.eval x = .slice (some ⟨G, 0, none⟩) 1 1)
    (hO : OwnIv w base v l) (hG : Blk w G 3 (ivC y)) (hlen : l.length ≤ 100000) (hbase : base ≤ w.heap.size)
    (h : ∀ v' w', OwnIv w' base v' (l ++ [y]) → Below base w w' → w.grownBy w' v.ownBlock → wpList Try.prog ops Q rest (a.put o.dst v') w') : wpList Try.prog ops Q (o :: rest) a w :=
  wpList_plain hg fun _ hK => append_iv y ho hs hx hO hG hlen hbase fun v' w' h1 h2 h3 => hK _ _ (h v' w' h1 h2 h3)

theorem OwnIv.drew {w : World} {base : Nat} {v : Value} {l : List Int} (h : OwnIv w base v l) : OwnIv w.drew base v l := h

/-- Some come behind. -/
theorem appendN_iv {o : Oper} {a : Act} {w : World} {K : Act → World → Prop} {Q : Exit → Act → World → Prop} {s x : Operand} {base G c : Nat} {v : Value} {l : List Int} (m : List Int)
    (ho : o.op = .call { callee := .builtin .append, args := #[s, x], argTypes := #[57, 57] }) (hs : a.eval s = v) (hx : a.eval x = .slice (some ⟨G, 0, none⟩) m.length c)
    (hO : OwnIv w base v l) (hG : IvAt w G 0 m) (hm : 0 < m.length) (hlen : l.length + m.length ≤ 100000) (hbase : base ≤ w.heap.size)
    (h : ∀ v' w', OwnIv w' base v' (l ++ m) → Below base w w' → w.grownBy w' v.ownBlock → K (a.put o.dst v') w') : Oper.wp Try.prog o a w K Q := by
  obtain ⟨i0, hi, hz0, hz1, hz2⟩ := info_parts Try.ivParts
  have hnews := ivAt_news hG
  have hne2 : m ≠ [] := List.length_pos_iff.1 hm
  have hml : (ivR m).length = m.length * 1 := ivR_len m
  rcases hO with ⟨rfl, rfl⟩ | ⟨hne, g, cap, rfl, hown⟩
  · refine wp_append_lies w s x _ ho base 3 i0 (.int .i64 0) 1 8 Try.underlying57 hi hz0 hz1 hz2 rfl (by decide) (.slice none 0 0) 0 [] hs (World.ownsRow_nil w base _ 1) ⟨G, 0, none⟩ m.length c (ivR m) hx hml hnews (ivR_cells m) hm (by unfold maxLen; simp at hlen; omega) (by simp at hlen; omega) hbase _ rfl ?_
    intro g cap w' hown hgrow hat hlt
    refine h _ _ (Or.inr ⟨by simpa using hne2, g, cap, by simp, ?_⟩) ((Below.refl base w).grown hgrow hbase (fun q hq => by simp [Value.ownBlock] at hq)) hgrow
    simpa using hown
  · have hown' := hown
    refine wp_append_lies w s x _ ho base 3 i0 (.int .i64 0) 1 8 Try.underlying57 hi hz0 hz1 hz2 rfl (by decide) (.slice (some ⟨g, 0, none⟩) l.length cap) l.length (ivR l) hs hown ⟨G, 0, none⟩ m.length c (ivR m) hx hml hnews (ivR_cells m) hm (by unfold maxLen; omega) (by omega) hbase _ rfl ?_
    intro g' cap' w' hown2 hgrow hat hlt
    obtain ⟨cur, hB, hge⟩ : ∃ cur, Blk w g 3 cur ∧ base ≤ g := by
      rcases hown'.2 with ⟨h1, -⟩ | ⟨g1, cap1, cur1, e1, e2, e3, -⟩
      · cases h1
      · cases e1
        exact ⟨cur1, e3, e2⟩
    refine h _ _ (Or.inr ⟨by simp [hne], g', cap', by rw [List.length_append], ?_⟩) ((Below.refl base w).grown hgrow hbase (fun q hq => by cases hq; exact hge)) hgrow
    rw [ivR_append, List.length_append]
    exact hown2

theorem appendNL_iv {ops : Array Oper} {rest : List Oper} {o : Oper} {a : Act} {w : World} {Q : Exit → Act → World → Prop} {s x : Operand} {base G c : Nat} {v : Value} {l : List Int} (m : List Int) (hg : o.guard = none)
    (ho : o.op = .call { callee := .builtin .append, args := #[s, x], argTypes := #[57, 57] }) (hs : a.eval s = v) (hx : a.eval x = .slice (some ⟨G, 0, none⟩) m.length c)
    (hO : OwnIv w base v l) (hG : IvAt w G 0 m) (hm : 0 < m.length) (hlen : l.length + m.length ≤ 100000) (hbase : base ≤ w.heap.size)
    (h : ∀ v' w', OwnIv w' base v' (l ++ m) → Below base w w' → w.grownBy w' v.ownBlock → wpList Try.prog ops Q rest (a.put o.dst v') w') : wpList Try.prog ops Q (o :: rest) a w :=
  wpList_plain hg fun _ hK => appendN_iv m ho hs hx hO hG hm hlen hbase fun v' w' h1 h2 h3 => hK _ _ (h v' w' h1 h2 h3)

end Go.Proofs.Ytdceggekhhflgaa
