/- Texts one behind the other. Rows of one's own: texts, capabilities, ways to manage, organisations. lldp.takeOne of texts. A region that draws its order: a load that must come before the region's own store to the same place. Ahead of an operation of D a fact S holds at every world; from it on nothing is asked. lldp.takeOne of api.Caps. lldp.takeOne of api.Manage. lldp.takeOne of api.Org. -/
import Derived.Test.YtocgnbbnaamjjaaGreatDoorLrK1
import Derived.Test.YtocgnbbnaamjjaaGreatDoorLrK2
import Derived.Test.YtocgnbbnaamjjaaGreatDoorLrK5
import Derived.Deep.RegionHeld3
namespace Go.Proofs.YtocgnbbnaamjjaaGreatDoor
open Go.RowKit
attribute [local go_sem ↓] Go.wp_at_zero Go.wp_at_succ
set_option linter.unusedSimpArgs false
set_option linter.unusedVariables false
set_option maxRecDepth 100000

/-- The cells of texts, one behind the other. -/
def stR (l : List ByteArray) : List Value := l.flatMap fun v => (stC v).toList

theorem stR_cons (v : ByteArray) (l : List ByteArray) : stR (v :: l) = (stC v).toList ++ stR l := by simp [stR]

theorem stR_append (l m : List ByteArray) : stR (l ++ m) = stR l ++ stR m := by simp [stR]

theorem stR_one (v : ByteArray) : stR [v] = (stC v).toList := by simp [stR]

theorem stC_len (v : ByteArray) : (stC v).toList.length = 1 := rfl

theorem stR_len (l : List ByteArray) : (stR l).length = l.length * 1 := by
  induction l with
  | nil => rfl
  | cons v l ih => rw [stR_cons, List.length_append, ih, stC_len, List.length_cons]; omega

theorem stR_get : ∀ (l : List ByteArray) (j : Nat) (hj : j < l.length) (k : Nat), k < 1 → (stR l)[j * 1 + k]? = (stC l[j])[k]?
  | [], j, hj, _, _ => by simp at hj
  | v :: l, 0, _, k, hk => by
    rw [stR_cons, List.getElem?_append_left (by rw [stC_len]; omega)]
    simp
  | v :: l, j + 1, hj, k, hk => by
    have ih := stR_get l j (by simpa using hj) k hk
    rw [stR_cons, List.getElem?_append_right (by rw [stC_len]; omega), stC_len, show (j + 1) * 1 + k - 1 = j * 1 + k by omega, ih]
    rfl

theorem stC_cells (v : ByteArray) : ∀ u ∈ (stC v).toList, u.oneCell' = true := by
  intro u hu
  simp only [stC, List.mem_cons, List.not_mem_nil, or_false] at hu
  rcases hu with rfl <;> rfl

theorem stR_cells (l : List ByteArray) : ∀ u ∈ stR l, u.oneCell' = true := by
  intro u hu
  unfold stR at hu
  obtain ⟨v, _, hv⟩ := List.mem_flatMap.1 hu
  exact stC_cells v u hv

theorem stAt_news {w : World} {b o : Nat} {l : List ByteArray} (h : StAt w b o l) : ∀ (q : Nat) u, (stR l)[q]? = some u → w.cell? ((⟨b, o, none⟩ : Addr).add q) = some u := by
  intro q u hu
  have hq : q < l.length * 1 := by
    rw [← stR_len]
    exact (List.getElem?_eq_some_iff.1 hu).1
  have hj : q / 1 < l.length := by omega
  have e : q = q / 1 * 1 + q % 1 := by omega
  rw [e, stR_get l (q / 1) hj (q % 1) (by omega)] at hu
  have := h (q / 1) hj (q % 1) u hu
  rw [e, Addr.add_lit, ← Nat.add_assoc]
  exact this

theorem st_own {w : World} {base g cap n : Nat} {T : TypeId} {l : List ByteArray} (hn : n = l.length) (h : w.ownsRow base T 1 (.slice (some ⟨g, 0, none⟩) n cap) n (stR l)) : StAt w g 0 l := by
  subst hn
  intro j hj k c hc
  have hk : k < 1 := (Array.getElem?_eq_some_iff.1 hc).1
  have h2 := h.cellAt (j * 1 + k) (by omega)
  rw [stR_get l j hj k hk, hc] at h2
  rw [Nat.zero_add]
  exact h2

/-- A row of texts of one's own: none, or a block from base on. -/
def OwnSt (w : World) (base : Nat) (v : Value) (l : List ByteArray) : Prop := (l = [] ∧ v = .slice none 0 0) ∨ (l ≠ [] ∧ ∃ g cap, v = .slice (some ⟨g, 0, none⟩) l.length cap ∧ w.ownsRow base 9 1 v l.length (stR l))

theorem OwnSt.nil (w : World) (base : Nat) : OwnSt w base (.slice none 0 0) [] := Or.inl ⟨rfl, rfl⟩

theorem OwnSt.kept {w w' : World} {base : Nat} {v : Value} {l : List ByteArray} (h : OwnSt w base v l) (hb : Below w.heap.size w w') : OwnSt w' base v l := by
  rcases h with h | ⟨h1, g, cap, rfl, h2⟩
  · exact Or.inl h
  · exact Or.inr ⟨h1, g, cap, rfl, h2.kept (show w.grownBy w' none from ⟨hb.os, hb.tape, hb.output, hb.size, fun k hk _ => hb.block k hk⟩) (Or.inr (by simp [Value.ownBlock]))⟩

theorem OwnSt.alloc {w : World} {base : Nat} {v : Value} {l : List ByteArray} (h : OwnSt w base v l) (o : Obj) : OwnSt (w.alloc o) base v l := h.kept ((Below.refl _ _).alloc (Nat.le_refl _) o)

theorem OwnSt.inL {w : World} {base : Nat} {v : Value} {l : List ByteArray} (h : OwnSt w base v l) : ∃ a c, v = .slice a l.length c ∧ StIn w a l := by
  rcases h with ⟨rfl, rfl⟩ | ⟨h1, g, cap, rfl, h2⟩
  · exact ⟨none, 0, rfl, Or.inl rfl⟩
  · exact ⟨some ⟨g, 0, none⟩, cap, rfl, Or.inr ⟨g, 0, rfl, (h2.lt g rfl).2, st_own rfl h2⟩⟩

theorem stR_snoc (l : List ByteArray) (x : ByteArray) : stR (l ++ [x]) = stR l ++ (stC x).toList := by rw [stR_append, stR_one]

/-- Another block is written. -/
theorem OwnSt.grown {w w' : World} {base : Nat} {v : Value} {l : List ByteArray} {row : Option Nat} (h : OwnSt w base v l) (hg : w.grownBy w' row) (hr : ∀ g, row = some g → g < base) : OwnSt w' base v l := by
  rcases h with h | ⟨h1, g, cap, rfl, h2⟩
  · exact Or.inl h
  · refine Or.inr ⟨h1, g, cap, rfl, h2.kept hg ?_⟩
    right
    intro e
    have h3 := (h2.lt g rfl).1
    have := hr g (by rw [← e]; simp [Value.ownBlock])
    omega

theorem OwnSt.mono {w : World} {base B : Nat} {v : Value} {l : List ByteArray} (h : OwnSt w base v l) (hB : B ≤ base) : OwnSt w B v l := by
  rcases h with h | ⟨h1, g, cap, rfl, h2, h3⟩
  · exact Or.inl h
  · refine Or.inr ⟨h1, g, cap, rfl, h2, ?_⟩
    rcases h3 with h3 | ⟨g', cap', cur, e1, e2, e3⟩
    · exact Or.inl h3
    · exact Or.inr ⟨g', cap', cur, e1, Nat.le_trans hB e2, e3⟩

/-- Its block. -/
theorem OwnSt.blk {w : World} {base : Nat} {v : Value} {l : List ByteArray} (h : OwnSt w base v l) : v.ownBlock = none ∨ ∃ g C, v.ownBlock = some g ∧ base ≤ g ∧ Blk w g 9 C := by
  rcases h with ⟨rfl, rfl⟩ | ⟨h1, g, cap, rfl, h2⟩
  · exact Or.inl rfl
  · rcases h2.2 with ⟨h3, -⟩ | ⟨g1, cap1, cur1, e1, e2, e3, -⟩
    · cases h3
    · cases e1
      exact Or.inr ⟨g, cur1, rfl, e2, e3⟩

/-- A block of another type is written. -/
theorem OwnSt.other {w w' : World} {base B : Nat} {v : Value} {l : List ByteArray} {T : TypeId} {C : Array Value} (h : OwnSt w base v l) (hB : Blk w B T C) (hT : T ≠ 9) (hg : w.grownBy w' (some B)) : OwnSt w' base v l := by
  have hb := h.blk
  rcases h with h | ⟨h1, g, cap, rfl, h2⟩
  · exact Or.inl h
  · refine Or.inr ⟨h1, g, cap, rfl, h2.kept hg ?_⟩
    right
    intro e
    rcases hb with hb | ⟨g1, C1, e1, e2, e3⟩
    · rw [hb] at e; cases e
    · rw [e1] at e
      cases e
      have h3 : w.heap[B]? = some (.cells C T (0, 0)) := hB
      have h4 : w.heap[B]? = some (.cells C1 9 (0, 0)) := e3
      rw [h3] at h4
      injection h4 with h4
      injection h4 with _ h5
      exact hT h5

theorem Tryz.svParts : (Tryz.prog.info? 9).map (fun i => (i.zero, i.size, i.bytes)) = some (some (.string ⟨#[]⟩), 1, 16) := by kernel_rfl

theorem fill_sv (v : ByteArray) : Instr.fill (fun i => some (i * 1, 1)) ((Array.range (1 * 1)).map ((Value.string ⟨#[]⟩).cells[· % (Value.string ⟨#[]⟩).cells.size]!)) [(0, .string v)] = some (stC v) := by kernel_rfl

/-- One comes behind. -/
theorem append_st {o : Oper} {a : Act} {w : World} {K : Act → World → Prop} {Q : Exit → Act → World → Prop} {s x : Operand} {base G : Nat} {v : Value} {l : List ByteArray} (y : ByteArray)
    (ho : o.op = .call { callee := .builtin .append, args := #[s, x], argTypes := #[24, 24] }) (hs : a.eval s = v) (hx : a.eval x = .slice (some ⟨G, 0, none⟩) 1 1)
    (hO : OwnSt w base v l) (hG : Blk w G 9 (stC y)) (hlen : l.length ≤ 100000) (hbase : base ≤ w.heap.size)
    (h : ∀ v' w', OwnSt w' base v' (l ++ [y]) → Below base w w' → w.grownBy w' v.ownBlock → K (a.put o.dst v') w') : Oper.wp Tryz.prog o a w K Q := by
  obtain ⟨i0, hi, hz0, hz1, hz2⟩ := info_parts Tryz.svParts
  have hnews : ∀ (j : Nat) u, (stC y).toList[j]? = some u → w.cell? ((⟨G, 0, none⟩ : Addr).add j) = some u := fun j u hu => by
    rw [Addr.add_lit, Nat.zero_add]
    exact hG.cv j u (by simpa using hu)
  rcases hO with ⟨rfl, rfl⟩ | ⟨hne, g, cap, rfl, hown⟩
  · refine wp_append_lies w s x _ ho base 9 i0 (.string ⟨#[]⟩) 1 16 Tryz.underlying24 hi hz0 hz1 hz2 rfl (by decide) (.slice none 0 0) 0 [] hs (World.ownsRow_nil w base _ 1) ⟨G, 0, none⟩ 1 1 (stC y).toList hx rfl hnews (stC_cells y) (by decide) (by unfold maxLen; omega) (by decide) hbase _ rfl ?_
    intro g cap w' hown hgrow hat hlt
    refine h _ _ (Or.inr ⟨by simp, g, cap, rfl, ?_⟩) ((Below.refl base w).grown hgrow hbase (fun q hq => by simp [Value.ownBlock] at hq)) hgrow
    rw [List.nil_append, stR_one]
    exact hown
  · have hown' := hown
    refine wp_append_lies w s x _ ho base 9 i0 (.string ⟨#[]⟩) 1 16 Tryz.underlying24 hi hz0 hz1 hz2 rfl (by decide) (.slice (some ⟨g, 0, none⟩) l.length cap) l.length (stR l) hs hown ⟨G, 0, none⟩ 1 1 (stC y).toList hx rfl hnews (stC_cells y) (by decide) (by unfold maxLen; omega) (by omega) hbase _ rfl ?_
    intro g' cap' w' hown2 hgrow hat hlt
    obtain ⟨cur, hB, hge⟩ : ∃ cur, Blk w g 9 cur ∧ base ≤ g := by
      rcases hown'.2 with ⟨h1, -⟩ | ⟨g1, cap1, cur1, e1, e2, e3, -⟩
      · cases h1
      · cases e1
        exact ⟨cur1, e3, e2⟩
    refine h _ _ (Or.inr ⟨by simp, g', cap', by rw [List.length_append]; rfl, ?_⟩) ((Below.refl base w).grown hgrow hbase (fun q hq => by cases hq; exact hge)) hgrow
    rw [stR_snoc, List.length_append]
    exact hown2

/-- Of one alone. -/
theorem slice_sv {o : Oper} {a : Act} {w : World} {K : Act → World → Prop} {Q : Exit → Act → World → Prop} {x : Operand} (y : ByteArray) (ho : o.op = .buildSlice 24 1 #[(0, x)]) (hx : a.eval x = .string y)
    (h : ∀ w1, Blk w1 w.heap.size 9 (stC y) → Below w.heap.size w w1 → w.heap.size < w1.heap.size → K (a.put o.dst (.slice (some ⟨w.heap.size, 0, none⟩) 1 1)) w1) : Oper.wp Tryz.prog o a w K Q := by
  obtain ⟨i0, hi, hz0, hz1, hz2⟩ := info_parts Tryz.svParts
  refine wp_buildSlice 24 9 1 _ ho (stC y) i0 (.string ⟨#[]⟩) Tryz.underlying24 hi hz0 (by rw [hz1]; decide) (by rw [hz1]; decide) (by rw [hz1]; simp only [List.map_toArray, List.map_cons, List.map_nil, hx]; exact fill_sv y) (h _ (Blk.new w _ _) ((Below.refl _ _).alloc (Nat.le_refl _) _) (Blk.new w _ _).lt)

theorem sliceL_sv {ops : Array Oper} {rest : List Oper} {o : Oper} {a : Act} {w : World} {Q : Exit → Act → World → Prop} {x : Operand} (y : ByteArray) (hg : o.guard = none) (ho : o.op = .buildSlice 24 1 #[(0, x)]) (hx : a.eval x = .string y)
    (h : ∀ w1, Blk w1 w.heap.size 9 (stC y) → Below w.heap.size w w1 → w.heap.size < w1.heap.size → wpList Tryz.prog ops Q rest (a.put o.dst (.slice (some ⟨w.heap.size, 0, none⟩) 1 1)) w1) : wpList Tryz.prog ops Q (o :: rest) a w :=
  wpList_plain hg fun _ hK => slice_sv y ho hx fun w1 hB hb hs => hK _ _ (h w1 hB hb hs)

theorem appendL_st {ops : Array Oper} {rest : List Oper} {o : Oper} {a : Act} {w : World} {Q : Exit → Act → World → Prop} {s x : Operand} {base G : Nat} {v : Value} {l : List ByteArray} (y : ByteArray) (hg : o.guard = none)
    (ho : o.op = .call { callee := .builtin .append, args := #[s, x], argTypes := #[24, 24] }) (hs : a.eval s = v) (hx : a.eval x = .slice (some ⟨G, 0, none⟩) 1 1)
    (hO : OwnSt w base v l) (hG : Blk w G 9 (stC y)) (hlen : l.length ≤ 100000) (hbase : base ≤ w.heap.size)
    (h : ∀ v' w', OwnSt w' base v' (l ++ [y]) → Below base w w' → w.grownBy w' v.ownBlock → wpList Tryz.prog ops Q rest (a.put o.dst v') w') : wpList Tryz.prog ops Q (o :: rest) a w :=
  wpList_plain hg fun _ hK => append_st y ho hs hx hO hG hlen hbase fun v' w' h1 h2 h3 => hK _ _ (h v' w' h1 h2 h3)

/-- The cells of capabilities, one behind the other. -/
def cpR (l : List Cp) : List Value := l.flatMap fun v => (cpC v).toList

theorem cpR_cons (v : Cp) (l : List Cp) : cpR (v :: l) = (cpC v).toList ++ cpR l := by simp [cpR]

theorem cpR_append (l m : List Cp) : cpR (l ++ m) = cpR l ++ cpR m := by simp [cpR]

theorem cpR_one (v : Cp) : cpR [v] = (cpC v).toList := by simp [cpR]

theorem cpC_len (v : Cp) : (cpC v).toList.length = 2 := rfl

theorem cpR_len (l : List Cp) : (cpR l).length = l.length * 2 := by
  induction l with
  | nil => rfl
  | cons v l ih => rw [cpR_cons, List.length_append, ih, cpC_len, List.length_cons]; omega

theorem cpR_get : ∀ (l : List Cp) (j : Nat) (hj : j < l.length) (k : Nat), k < 2 → (cpR l)[j * 2 + k]? = (cpC l[j])[k]?
  | [], j, hj, _, _ => by simp at hj
  | v :: l, 0, _, k, hk => by
    rw [cpR_cons, List.getElem?_append_left (by rw [cpC_len]; omega)]
    simp
  | v :: l, j + 1, hj, k, hk => by
    have ih := cpR_get l j (by simpa using hj) k hk
    rw [cpR_cons, List.getElem?_append_right (by rw [cpC_len]; omega), cpC_len, show (j + 1) * 2 + k - 2 = j * 2 + k by omega, ih]
    rfl

theorem cpC_cells (v : Cp) : ∀ u ∈ (cpC v).toList, u.oneCell' = true := by
  intro u hu
  simp only [cpC, List.mem_cons, List.not_mem_nil, or_false] at hu
  rcases hu with rfl | rfl <;> rfl

theorem cpR_cells (l : List Cp) : ∀ u ∈ cpR l, u.oneCell' = true := by
  intro u hu
  unfold cpR at hu
  obtain ⟨v, _, hv⟩ := List.mem_flatMap.1 hu
  exact cpC_cells v u hv

theorem cpAt_news {w : World} {b o : Nat} {l : List Cp} (h : CpAt w b o l) : ∀ (q : Nat) u, (cpR l)[q]? = some u → w.cell? ((⟨b, o, none⟩ : Addr).add q) = some u := by
  intro q u hu
  have hq : q < l.length * 2 := by
    rw [← cpR_len]
    exact (List.getElem?_eq_some_iff.1 hu).1
  have hj : q / 2 < l.length := by omega
  have e : q = q / 2 * 2 + q % 2 := by omega
  rw [e, cpR_get l (q / 2) hj (q % 2) (by omega)] at hu
  have := h (q / 2) hj (q % 2) u hu
  rw [e, Addr.add_lit, ← Nat.add_assoc]
  exact this

theorem cp_own {w : World} {base g cap n : Nat} {T : TypeId} {l : List Cp} (hn : n = l.length) (h : w.ownsRow base T 2 (.slice (some ⟨g, 0, none⟩) n cap) n (cpR l)) : CpAt w g 0 l := by
  subst hn
  intro j hj k c hc
  have hk : k < 2 := (Array.getElem?_eq_some_iff.1 hc).1
  have h2 := h.cellAt (j * 2 + k) (by omega)
  rw [cpR_get l j hj k hk, hc] at h2
  rw [Nat.zero_add]
  exact h2

/-- A row of capabilities of one's own: none, or a block from base on. -/
def OwnCp (w : World) (base : Nat) (v : Value) (l : List Cp) : Prop := (l = [] ∧ v = .slice none 0 0) ∨ (l ≠ [] ∧ ∃ g cap, v = .slice (some ⟨g, 0, none⟩) l.length cap ∧ w.ownsRow base 86 2 v l.length (cpR l))

theorem OwnCp.nil (w : World) (base : Nat) : OwnCp w base (.slice none 0 0) [] := Or.inl ⟨rfl, rfl⟩

theorem OwnCp.kept {w w' : World} {base : Nat} {v : Value} {l : List Cp} (h : OwnCp w base v l) (hb : Below w.heap.size w w') : OwnCp w' base v l := by
  rcases h with h | ⟨h1, g, cap, rfl, h2⟩
  · exact Or.inl h
  · exact Or.inr ⟨h1, g, cap, rfl, h2.kept (show w.grownBy w' none from ⟨hb.os, hb.tape, hb.output, hb.size, fun k hk _ => hb.block k hk⟩) (Or.inr (by simp [Value.ownBlock]))⟩

theorem OwnCp.alloc {w : World} {base : Nat} {v : Value} {l : List Cp} (h : OwnCp w base v l) (o : Obj) : OwnCp (w.alloc o) base v l := h.kept ((Below.refl _ _).alloc (Nat.le_refl _) o)

theorem OwnCp.inL {w : World} {base : Nat} {v : Value} {l : List Cp} (h : OwnCp w base v l) : ∃ a c, v = .slice a l.length c ∧ CpIn w a l := by
  rcases h with ⟨rfl, rfl⟩ | ⟨h1, g, cap, rfl, h2⟩
  · exact ⟨none, 0, rfl, Or.inl rfl⟩
  · exact ⟨some ⟨g, 0, none⟩, cap, rfl, Or.inr ⟨g, 0, rfl, (h2.lt g rfl).2, cp_own rfl h2⟩⟩

theorem cpR_snoc (l : List Cp) (x : Cp) : cpR (l ++ [x]) = cpR l ++ (cpC x).toList := by rw [cpR_append, cpR_one]

/-- Another block is written. -/
theorem OwnCp.grown {w w' : World} {base : Nat} {v : Value} {l : List Cp} {row : Option Nat} (h : OwnCp w base v l) (hg : w.grownBy w' row) (hr : ∀ g, row = some g → g < base) : OwnCp w' base v l := by
  rcases h with h | ⟨h1, g, cap, rfl, h2⟩
  · exact Or.inl h
  · refine Or.inr ⟨h1, g, cap, rfl, h2.kept hg ?_⟩
    right
    intro e
    have h3 := (h2.lt g rfl).1
    have := hr g (by rw [← e]; simp [Value.ownBlock])
    omega

theorem OwnCp.mono {w : World} {base B : Nat} {v : Value} {l : List Cp} (h : OwnCp w base v l) (hB : B ≤ base) : OwnCp w B v l := by
  rcases h with h | ⟨h1, g, cap, rfl, h2, h3⟩
  · exact Or.inl h
  · refine Or.inr ⟨h1, g, cap, rfl, h2, ?_⟩
    rcases h3 with h3 | ⟨g', cap', cur, e1, e2, e3⟩
    · exact Or.inl h3
    · exact Or.inr ⟨g', cap', cur, e1, Nat.le_trans hB e2, e3⟩

/-- Its block. -/
theorem OwnCp.blk {w : World} {base : Nat} {v : Value} {l : List Cp} (h : OwnCp w base v l) : v.ownBlock = none ∨ ∃ g C, v.ownBlock = some g ∧ base ≤ g ∧ Blk w g 86 C := by
  rcases h with ⟨rfl, rfl⟩ | ⟨h1, g, cap, rfl, h2⟩
  · exact Or.inl rfl
  · rcases h2.2 with ⟨h3, -⟩ | ⟨g1, cap1, cur1, e1, e2, e3, -⟩
    · cases h3
    · cases e1
      exact Or.inr ⟨g, cur1, rfl, e2, e3⟩

/-- A block of another type is written. -/
theorem OwnCp.other {w w' : World} {base B : Nat} {v : Value} {l : List Cp} {T : TypeId} {C : Array Value} (h : OwnCp w base v l) (hB : Blk w B T C) (hT : T ≠ 86) (hg : w.grownBy w' (some B)) : OwnCp w' base v l := by
  have hb := h.blk
  rcases h with h | ⟨h1, g, cap, rfl, h2⟩
  · exact Or.inl h
  · refine Or.inr ⟨h1, g, cap, rfl, h2.kept hg ?_⟩
    right
    intro e
    rcases hb with hb | ⟨g1, C1, e1, e2, e3⟩
    · rw [hb] at e; cases e
    · rw [e1] at e
      cases e
      have h3 : w.heap[B]? = some (.cells C T (0, 0)) := hB
      have h4 : w.heap[B]? = some (.cells C1 86 (0, 0)) := e3
      rw [h3] at h4
      injection h4 with h4
      injection h4 with _ h5
      exact hT h5

theorem Tryz.cpParts : (Tryz.prog.info? 86).map (fun i => (i.zero, i.size, i.bytes)) = some (some (.agg (cpC zCp)), 2, 16) := by kernel_rfl

theorem fill_cp (v : Cp) : Instr.fill (fun i => some (i * 2, 2)) ((Array.range (1 * 2)).map ((Value.agg (cpC zCp)).cells[· % (Value.agg (cpC zCp)).cells.size]!)) [(0, .agg (cpC v))] = some (cpC v) := by kernel_rfl

/-- One comes behind. -/
theorem append_cp {o : Oper} {a : Act} {w : World} {K : Act → World → Prop} {Q : Exit → Act → World → Prop} {s x : Operand} {base G : Nat} {v : Value} {l : List Cp} (y : Cp)
    (ho : o.op = .call { callee := .builtin .append, args := #[s, x], argTypes := #[25, 25] }) (hs : a.eval s = v) (hx : a.eval x = .slice (some ⟨G, 0, none⟩) 1 1)
    (hO : OwnCp w base v l) (hG : Blk w G 86 (cpC y)) (hlen : l.length ≤ 100000) (hbase : base ≤ w.heap.size)
    (h : ∀ v' w', OwnCp w' base v' (l ++ [y]) → Below base w w' → w.grownBy w' v.ownBlock → K (a.put o.dst v') w') : Oper.wp Tryz.prog o a w K Q := by
  obtain ⟨i0, hi, hz0, hz1, hz2⟩ := info_parts Tryz.cpParts
  have hnews : ∀ (j : Nat) u, (cpC y).toList[j]? = some u → w.cell? ((⟨G, 0, none⟩ : Addr).add j) = some u := fun j u hu => by
    rw [Addr.add_lit, Nat.zero_add]
    exact hG.cv j u (by simpa using hu)
  rcases hO with ⟨rfl, rfl⟩ | ⟨hne, g, cap, rfl, hown⟩
  · refine wp_append_lies w s x _ ho base 86 i0 (.agg (cpC zCp)) 2 16 Tryz.underlying25 hi hz0 hz1 hz2 rfl (by decide) (.slice none 0 0) 0 [] hs (World.ownsRow_nil w base _ 2) ⟨G, 0, none⟩ 1 1 (cpC y).toList hx rfl hnews (cpC_cells y) (by decide) (by unfold maxLen; omega) (by decide) hbase _ rfl ?_
    intro g cap w' hown hgrow hat hlt
    refine h _ _ (Or.inr ⟨by simp, g, cap, rfl, ?_⟩) ((Below.refl base w).grown hgrow hbase (fun q hq => by simp [Value.ownBlock] at hq)) hgrow
    rw [List.nil_append, cpR_one]
    exact hown
  · have hown' := hown
    refine wp_append_lies w s x _ ho base 86 i0 (.agg (cpC zCp)) 2 16 Tryz.underlying25 hi hz0 hz1 hz2 rfl (by decide) (.slice (some ⟨g, 0, none⟩) l.length cap) l.length (cpR l) hs hown ⟨G, 0, none⟩ 1 1 (cpC y).toList hx rfl hnews (cpC_cells y) (by decide) (by unfold maxLen; omega) (by omega) hbase _ rfl ?_
    intro g' cap' w' hown2 hgrow hat hlt
    obtain ⟨cur, hB, hge⟩ : ∃ cur, Blk w g 86 cur ∧ base ≤ g := by
      rcases hown'.2 with ⟨h1, -⟩ | ⟨g1, cap1, cur1, e1, e2, e3, -⟩
      · cases h1
      · cases e1
        exact ⟨cur1, e3, e2⟩
    refine h _ _ (Or.inr ⟨by simp, g', cap', by rw [List.length_append]; rfl, ?_⟩) ((Below.refl base w).grown hgrow hbase (fun q hq => by cases hq; exact hge)) hgrow
    rw [cpR_snoc, List.length_append]
    exact hown2

/-- Of one alone. -/
theorem slice_cp {o : Oper} {a : Act} {w : World} {K : Act → World → Prop} {Q : Exit → Act → World → Prop} {x : Operand} (y : Cp) (ho : o.op = .buildSlice 25 1 #[(0, x)]) (hx : a.eval x = .agg (cpC y))
    (h : ∀ w1, Blk w1 w.heap.size 86 (cpC y) → Below w.heap.size w w1 → w.heap.size < w1.heap.size → K (a.put o.dst (.slice (some ⟨w.heap.size, 0, none⟩) 1 1)) w1) : Oper.wp Tryz.prog o a w K Q := by
  obtain ⟨i0, hi, hz0, hz1, hz2⟩ := info_parts Tryz.cpParts
  refine wp_buildSlice 25 86 1 _ ho (cpC y) i0 (.agg (cpC zCp)) Tryz.underlying25 hi hz0 (by rw [hz1]; decide) (by rw [hz1]; decide) (by rw [hz1]; simp only [List.map_toArray, List.map_cons, List.map_nil, hx]; exact fill_cp y) (h _ (Blk.new w _ _) ((Below.refl _ _).alloc (Nat.le_refl _) _) (Blk.new w _ _).lt)

theorem sliceL_cp {ops : Array Oper} {rest : List Oper} {o : Oper} {a : Act} {w : World} {Q : Exit → Act → World → Prop} {x : Operand} (y : Cp) (hg : o.guard = none) (ho : o.op = .buildSlice 25 1 #[(0, x)]) (hx : a.eval x = .agg (cpC y))
    (h : ∀ w1, Blk w1 w.heap.size 86 (cpC y) → Below w.heap.size w w1 → w.heap.size < w1.heap.size → wpList Tryz.prog ops Q rest (a.put o.dst (.slice (some ⟨w.heap.size, 0, none⟩) 1 1)) w1) : wpList Tryz.prog ops Q (o :: rest) a w :=
  wpList_plain hg fun _ hK => slice_cp y ho hx fun w1 hB hb hs => hK _ _ (h w1 hB hb hs)

theorem appendL_cp {ops : Array Oper} {rest : List Oper} {o : Oper} {a : Act} {w : World} {Q : Exit → Act → World → Prop} {s x : Operand} {base G : Nat} {v : Value} {l : List Cp} (y : Cp) (hg : o.guard = none)
    (ho : o.op = .call { callee := .builtin .append, args := #[s, x], argTypes := #[25, 25] }) (hs : a.eval s = v) (hx : a.eval x = .slice (some ⟨G, 0, none⟩) 1 1)
    (hO : OwnCp w base v l) (hG : Blk w G 86 (cpC y)) (hlen : l.length ≤ 100000) (hbase : base ≤ w.heap.size)
    (h : ∀ v' w', OwnCp w' base v' (l ++ [y]) → Below base w w' → w.grownBy w' v.ownBlock → wpList Tryz.prog ops Q rest (a.put o.dst v') w') : wpList Tryz.prog ops Q (o :: rest) a w :=
  wpList_plain hg fun _ hK => append_cp y ho hs hx hO hG hlen hbase fun v' w' h1 h2 h3 => hK _ _ (h v' w' h1 h2 h3)

/-- The cells of ways to manage, one behind the other. -/
def mgR (l : List Mg) : List Value := l.flatMap fun v => (mgC v).toList

theorem mgR_cons (v : Mg) (l : List Mg) : mgR (v :: l) = (mgC v).toList ++ mgR l := by simp [mgR]

theorem mgR_append (l m : List Mg) : mgR (l ++ m) = mgR l ++ mgR m := by simp [mgR]

theorem mgR_one (v : Mg) : mgR [v] = (mgC v).toList := by simp [mgR]

theorem mgC_len (v : Mg) : (mgC v).toList.length = 5 := rfl

theorem mgR_len (l : List Mg) : (mgR l).length = l.length * 5 := by
  induction l with
  | nil => rfl
  | cons v l ih => rw [mgR_cons, List.length_append, ih, mgC_len, List.length_cons]; omega

theorem mgR_get : ∀ (l : List Mg) (j : Nat) (hj : j < l.length) (k : Nat), k < 5 → (mgR l)[j * 5 + k]? = (mgC l[j])[k]?
  | [], j, hj, _, _ => by simp at hj
  | v :: l, 0, _, k, hk => by
    rw [mgR_cons, List.getElem?_append_left (by rw [mgC_len]; omega)]
    simp
  | v :: l, j + 1, hj, k, hk => by
    have ih := mgR_get l j (by simpa using hj) k hk
    rw [mgR_cons, List.getElem?_append_right (by rw [mgC_len]; omega), mgC_len, show (j + 1) * 5 + k - 5 = j * 5 + k by omega, ih]
    rfl

theorem mgC_cells (v : Mg) : ∀ u ∈ (mgC v).toList, u.oneCell' = true := by
  intro u hu
  simp only [mgC, List.mem_cons, List.not_mem_nil, or_false] at hu
  rcases hu with rfl | rfl | rfl | rfl | rfl <;> rfl

theorem mgR_cells (l : List Mg) : ∀ u ∈ mgR l, u.oneCell' = true := by
  intro u hu
  unfold mgR at hu
  obtain ⟨v, _, hv⟩ := List.mem_flatMap.1 hu
  exact mgC_cells v u hv

theorem mgAt_news {w : World} {b o : Nat} {l : List Mg} (h : MgAt w b o l) : ∀ (q : Nat) u, (mgR l)[q]? = some u → w.cell? ((⟨b, o, none⟩ : Addr).add q) = some u := by
  intro q u hu
  have hq : q < l.length * 5 := by
    rw [← mgR_len]
    exact (List.getElem?_eq_some_iff.1 hu).1
  have hj : q / 5 < l.length := by omega
  have e : q = q / 5 * 5 + q % 5 := by omega
  rw [e, mgR_get l (q / 5) hj (q % 5) (by omega)] at hu
  have := h (q / 5) hj (q % 5) u hu
  rw [e, Addr.add_lit, ← Nat.add_assoc]
  exact this

theorem mg_own {w : World} {base g cap n : Nat} {T : TypeId} {l : List Mg} (hn : n = l.length) (h : w.ownsRow base T 5 (.slice (some ⟨g, 0, none⟩) n cap) n (mgR l)) : MgAt w g 0 l := by
  subst hn
  intro j hj k c hc
  have hk : k < 5 := (Array.getElem?_eq_some_iff.1 hc).1
  have h2 := h.cellAt (j * 5 + k) (by omega)
  rw [mgR_get l j hj k hk, hc] at h2
  rw [Nat.zero_add]
  exact h2

/-- A row of ways to manage of one's own: none, or a block from base on. -/
def OwnMg (w : World) (base : Nat) (v : Value) (l : List Mg) : Prop := (l = [] ∧ v = .slice none 0 0) ∨ (l ≠ [] ∧ ∃ g cap, v = .slice (some ⟨g, 0, none⟩) l.length cap ∧ w.ownsRow base 89 5 v l.length (mgR l))

theorem OwnMg.nil (w : World) (base : Nat) : OwnMg w base (.slice none 0 0) [] := Or.inl ⟨rfl, rfl⟩

theorem OwnMg.kept {w w' : World} {base : Nat} {v : Value} {l : List Mg} (h : OwnMg w base v l) (hb : Below w.heap.size w w') : OwnMg w' base v l := by
  rcases h with h | ⟨h1, g, cap, rfl, h2⟩
  · exact Or.inl h
  · exact Or.inr ⟨h1, g, cap, rfl, h2.kept (show w.grownBy w' none from ⟨hb.os, hb.tape, hb.output, hb.size, fun k hk _ => hb.block k hk⟩) (Or.inr (by simp [Value.ownBlock]))⟩

theorem OwnMg.alloc {w : World} {base : Nat} {v : Value} {l : List Mg} (h : OwnMg w base v l) (o : Obj) : OwnMg (w.alloc o) base v l := h.kept ((Below.refl _ _).alloc (Nat.le_refl _) o)

theorem OwnMg.inL {w : World} {base : Nat} {v : Value} {l : List Mg} (h : OwnMg w base v l) : ∃ a c, v = .slice a l.length c ∧ MgIn w a l := by
  rcases h with ⟨rfl, rfl⟩ | ⟨h1, g, cap, rfl, h2⟩
  · exact ⟨none, 0, rfl, Or.inl rfl⟩
  · exact ⟨some ⟨g, 0, none⟩, cap, rfl, Or.inr ⟨g, 0, rfl, (h2.lt g rfl).2, mg_own rfl h2⟩⟩

theorem mgR_snoc (l : List Mg) (x : Mg) : mgR (l ++ [x]) = mgR l ++ (mgC x).toList := by rw [mgR_append, mgR_one]

/-- Another block is written. -/
theorem OwnMg.grown {w w' : World} {base : Nat} {v : Value} {l : List Mg} {row : Option Nat} (h : OwnMg w base v l) (hg : w.grownBy w' row) (hr : ∀ g, row = some g → g < base) : OwnMg w' base v l := by
  rcases h with h | ⟨h1, g, cap, rfl, h2⟩
  · exact Or.inl h
  · refine Or.inr ⟨h1, g, cap, rfl, h2.kept hg ?_⟩
    right
    intro e
    have h3 := (h2.lt g rfl).1
    have := hr g (by rw [← e]; simp [Value.ownBlock])
    omega

theorem OwnMg.mono {w : World} {base B : Nat} {v : Value} {l : List Mg} (h : OwnMg w base v l) (hB : B ≤ base) : OwnMg w B v l := by
  rcases h with h | ⟨h1, g, cap, rfl, h2, h3⟩
  · exact Or.inl h
  · refine Or.inr ⟨h1, g, cap, rfl, h2, ?_⟩
    rcases h3 with h3 | ⟨g', cap', cur, e1, e2, e3⟩
    · exact Or.inl h3
    · exact Or.inr ⟨g', cap', cur, e1, Nat.le_trans hB e2, e3⟩

/-- Its block. -/
theorem OwnMg.blk {w : World} {base : Nat} {v : Value} {l : List Mg} (h : OwnMg w base v l) : v.ownBlock = none ∨ ∃ g C, v.ownBlock = some g ∧ base ≤ g ∧ Blk w g 89 C := by
  rcases h with ⟨rfl, rfl⟩ | ⟨h1, g, cap, rfl, h2⟩
  · exact Or.inl rfl
  · rcases h2.2 with ⟨h3, -⟩ | ⟨g1, cap1, cur1, e1, e2, e3, -⟩
    · cases h3
    · cases e1
      exact Or.inr ⟨g, cur1, rfl, e2, e3⟩

/-- A block of another type is written. -/
theorem OwnMg.other {w w' : World} {base B : Nat} {v : Value} {l : List Mg} {T : TypeId} {C : Array Value} (h : OwnMg w base v l) (hB : Blk w B T C) (hT : T ≠ 89) (hg : w.grownBy w' (some B)) : OwnMg w' base v l := by
  have hb := h.blk
  rcases h with h | ⟨h1, g, cap, rfl, h2⟩
  · exact Or.inl h
  · refine Or.inr ⟨h1, g, cap, rfl, h2.kept hg ?_⟩
    right
    intro e
    rcases hb with hb | ⟨g1, C1, e1, e2, e3⟩
    · rw [hb] at e; cases e
    · rw [e1] at e
      cases e
      have h3 : w.heap[B]? = some (.cells C T (0, 0)) := hB
      have h4 : w.heap[B]? = some (.cells C1 89 (0, 0)) := e3
      rw [h3] at h4
      injection h4 with h4
      injection h4 with _ h5
      exact hT h5

theorem Tryz.mgParts : (Tryz.prog.info? 89).map (fun i => (i.zero, i.size, i.bytes)) = some (some (.agg (mgC zMg)), 5, 56) := by kernel_rfl

theorem fill_mg (v : Mg) : Instr.fill (fun i => some (i * 5, 5)) ((Array.range (1 * 5)).map ((Value.agg (mgC zMg)).cells[· % (Value.agg (mgC zMg)).cells.size]!)) [(0, .agg (mgC v))] = some (mgC v) := by kernel_rfl

/-- One comes behind. -/
theorem append_mg {o : Oper} {a : Act} {w : World} {K : Act → World → Prop} {Q : Exit → Act → World → Prop} {s x : Operand} {base G : Nat} {v : Value} {l : List Mg} (y : Mg)
    (ho : o.op = .call { callee := .builtin .append, args := #[s, x], argTypes := #[26, 26] }) (hs : a.eval s = v) (hx : a.eval x = .slice (some ⟨G, 0, none⟩) 1 1)
    (hO : OwnMg w base v l) (hG : Blk w G 89 (mgC y)) (hlen : l.length ≤ 100000) (hbase : base ≤ w.heap.size)
    (h : ∀ v' w', OwnMg w' base v' (l ++ [y]) → Below base w w' → w.grownBy w' v.ownBlock → K (a.put o.dst v') w') : Oper.wp Tryz.prog o a w K Q := by
  obtain ⟨i0, hi, hz0, hz1, hz2⟩ := info_parts Tryz.mgParts
  have hnews : ∀ (j : Nat) u, (mgC y).toList[j]? = some u → w.cell? ((⟨G, 0, none⟩ : Addr).add j) = some u := fun j u hu => by
    rw [Addr.add_lit, Nat.zero_add]
    exact hG.cv j u (by simpa using hu)
  rcases hO with ⟨rfl, rfl⟩ | ⟨hne, g, cap, rfl, hown⟩
  · refine wp_append_lies w s x _ ho base 89 i0 (.agg (mgC zMg)) 5 56 Tryz.underlying26 hi hz0 hz1 hz2 rfl (by decide) (.slice none 0 0) 0 [] hs (World.ownsRow_nil w base _ 5) ⟨G, 0, none⟩ 1 1 (mgC y).toList hx rfl hnews (mgC_cells y) (by decide) (by unfold maxLen; omega) (by decide) hbase _ rfl ?_
    intro g cap w' hown hgrow hat hlt
    refine h _ _ (Or.inr ⟨by simp, g, cap, rfl, ?_⟩) ((Below.refl base w).grown hgrow hbase (fun q hq => by simp [Value.ownBlock] at hq)) hgrow
    rw [List.nil_append, mgR_one]
    exact hown
  · have hown' := hown
    refine wp_append_lies w s x _ ho base 89 i0 (.agg (mgC zMg)) 5 56 Tryz.underlying26 hi hz0 hz1 hz2 rfl (by decide) (.slice (some ⟨g, 0, none⟩) l.length cap) l.length (mgR l) hs hown ⟨G, 0, none⟩ 1 1 (mgC y).toList hx rfl hnews (mgC_cells y) (by decide) (by unfold maxLen; omega) (by omega) hbase _ rfl ?_
    intro g' cap' w' hown2 hgrow hat hlt
    obtain ⟨cur, hB, hge⟩ : ∃ cur, Blk w g 89 cur ∧ base ≤ g := by
      rcases hown'.2 with ⟨h1, -⟩ | ⟨g1, cap1, cur1, e1, e2, e3, -⟩
      · cases h1
      · cases e1
        exact ⟨cur1, e3, e2⟩
    refine h _ _ (Or.inr ⟨by simp, g', cap', by rw [List.length_append]; rfl, ?_⟩) ((Below.refl base w).grown hgrow hbase (fun q hq => by cases hq; exact hge)) hgrow
    rw [mgR_snoc, List.length_append]
    exact hown2

/-- Of one alone. -/
theorem slice_mg {o : Oper} {a : Act} {w : World} {K : Act → World → Prop} {Q : Exit → Act → World → Prop} {x : Operand} (y : Mg) (ho : o.op = .buildSlice 26 1 #[(0, x)]) (hx : a.eval x = .agg (mgC y))
    (h : ∀ w1, Blk w1 w.heap.size 89 (mgC y) → Below w.heap.size w w1 → w.heap.size < w1.heap.size → K (a.put o.dst (.slice (some ⟨w.heap.size, 0, none⟩) 1 1)) w1) : Oper.wp Tryz.prog o a w K Q := by
  obtain ⟨i0, hi, hz0, hz1, hz2⟩ := info_parts Tryz.mgParts
  refine wp_buildSlice 26 89 1 _ ho (mgC y) i0 (.agg (mgC zMg)) Tryz.underlying26 hi hz0 (by rw [hz1]; decide) (by rw [hz1]; decide) (by rw [hz1]; simp only [List.map_toArray, List.map_cons, List.map_nil, hx]; exact fill_mg y) (h _ (Blk.new w _ _) ((Below.refl _ _).alloc (Nat.le_refl _) _) (Blk.new w _ _).lt)

theorem sliceL_mg {ops : Array Oper} {rest : List Oper} {o : Oper} {a : Act} {w : World} {Q : Exit → Act → World → Prop} {x : Operand} (y : Mg) (hg : o.guard = none) (ho : o.op = .buildSlice 26 1 #[(0, x)]) (hx : a.eval x = .agg (mgC y))
    (h : ∀ w1, Blk w1 w.heap.size 89 (mgC y) → Below w.heap.size w w1 → w.heap.size < w1.heap.size → wpList Tryz.prog ops Q rest (a.put o.dst (.slice (some ⟨w.heap.size, 0, none⟩) 1 1)) w1) : wpList Tryz.prog ops Q (o :: rest) a w :=
  wpList_plain hg fun _ hK => slice_mg y ho hx fun w1 hB hb hs => hK _ _ (h w1 hB hb hs)

theorem appendL_mg {ops : Array Oper} {rest : List Oper} {o : Oper} {a : Act} {w : World} {Q : Exit → Act → World → Prop} {s x : Operand} {base G : Nat} {v : Value} {l : List Mg} (y : Mg) (hg : o.guard = none)
    (ho : o.op = .call { callee := .builtin .append, args := #[s, x], argTypes := #[26, 26] }) (hs : a.eval s = v) (hx : a.eval x = .slice (some ⟨G, 0, none⟩) 1 1)
    (hO : OwnMg w base v l) (hG : Blk w G 89 (mgC y)) (hlen : l.length ≤ 100000) (hbase : base ≤ w.heap.size)
    (h : ∀ v' w', OwnMg w' base v' (l ++ [y]) → Below base w w' → w.grownBy w' v.ownBlock → wpList Tryz.prog ops Q rest (a.put o.dst v') w') : wpList Tryz.prog ops Q (o :: rest) a w :=
  wpList_plain hg fun _ hK => append_mg y ho hs hx hO hG hlen hbase fun v' w' h1 h2 h3 => hK _ _ (h v' w' h1 h2 h3)

/-- The cells of what organisations tell, one behind the other. -/
def ogR (l : List Og) : List Value := l.flatMap fun v => (ogC v).toList

theorem ogR_cons (v : Og) (l : List Og) : ogR (v :: l) = (ogC v).toList ++ ogR l := by simp [ogR]

theorem ogR_append (l m : List Og) : ogR (l ++ m) = ogR l ++ ogR m := by simp [ogR]

theorem ogR_one (v : Og) : ogR [v] = (ogC v).toList := by simp [ogR]

theorem ogC_len (v : Og) : (ogC v).toList.length = 3 := rfl

theorem ogR_len (l : List Og) : (ogR l).length = l.length * 3 := by
  induction l with
  | nil => rfl
  | cons v l ih => rw [ogR_cons, List.length_append, ih, ogC_len, List.length_cons]; omega

theorem ogR_get : ∀ (l : List Og) (j : Nat) (hj : j < l.length) (k : Nat), k < 3 → (ogR l)[j * 3 + k]? = (ogC l[j])[k]?
  | [], j, hj, _, _ => by simp at hj
  | v :: l, 0, _, k, hk => by
    rw [ogR_cons, List.getElem?_append_left (by rw [ogC_len]; omega)]
    simp
  | v :: l, j + 1, hj, k, hk => by
    have ih := ogR_get l j (by simpa using hj) k hk
    rw [ogR_cons, List.getElem?_append_right (by rw [ogC_len]; omega), ogC_len, show (j + 1) * 3 + k - 3 = j * 3 + k by omega, ih]
    rfl

theorem ogC_cells (v : Og) : ∀ u ∈ (ogC v).toList, u.oneCell' = true := by
  intro u hu
  simp only [ogC, List.mem_cons, List.not_mem_nil, or_false] at hu
  rcases hu with rfl | rfl | rfl <;> rfl

theorem ogR_cells (l : List Og) : ∀ u ∈ ogR l, u.oneCell' = true := by
  intro u hu
  unfold ogR at hu
  obtain ⟨v, _, hv⟩ := List.mem_flatMap.1 hu
  exact ogC_cells v u hv

theorem ogAt_news {w : World} {b o : Nat} {l : List Og} (h : OgAt w b o l) : ∀ (q : Nat) u, (ogR l)[q]? = some u → w.cell? ((⟨b, o, none⟩ : Addr).add q) = some u := by
  intro q u hu
  have hq : q < l.length * 3 := by
    rw [← ogR_len]
    exact (List.getElem?_eq_some_iff.1 hu).1
  have hj : q / 3 < l.length := by omega
  have e : q = q / 3 * 3 + q % 3 := by omega
  rw [e, ogR_get l (q / 3) hj (q % 3) (by omega)] at hu
  have := h (q / 3) hj (q % 3) u hu
  rw [e, Addr.add_lit, ← Nat.add_assoc]
  exact this

theorem og_own {w : World} {base g cap n : Nat} {T : TypeId} {l : List Og} (hn : n = l.length) (h : w.ownsRow base T 3 (.slice (some ⟨g, 0, none⟩) n cap) n (ogR l)) : OgAt w g 0 l := by
  subst hn
  intro j hj k c hc
  have hk : k < 3 := (Array.getElem?_eq_some_iff.1 hc).1
  have h2 := h.cellAt (j * 3 + k) (by omega)
  rw [ogR_get l j hj k hk, hc] at h2
  rw [Nat.zero_add]
  exact h2

/-- A row of what organisations tell of one's own: none, or a block from base on. -/
def OwnOg (w : World) (base : Nat) (v : Value) (l : List Og) : Prop := (l = [] ∧ v = .slice none 0 0) ∨ (l ≠ [] ∧ ∃ g cap, v = .slice (some ⟨g, 0, none⟩) l.length cap ∧ w.ownsRow base 111 3 v l.length (ogR l))

theorem OwnOg.nil (w : World) (base : Nat) : OwnOg w base (.slice none 0 0) [] := Or.inl ⟨rfl, rfl⟩

theorem OwnOg.kept {w w' : World} {base : Nat} {v : Value} {l : List Og} (h : OwnOg w base v l) (hb : Below w.heap.size w w') : OwnOg w' base v l := by
  rcases h with h | ⟨h1, g, cap, rfl, h2⟩
  · exact Or.inl h
  · exact Or.inr ⟨h1, g, cap, rfl, h2.kept (show w.grownBy w' none from ⟨hb.os, hb.tape, hb.output, hb.size, fun k hk _ => hb.block k hk⟩) (Or.inr (by simp [Value.ownBlock]))⟩

theorem OwnOg.alloc {w : World} {base : Nat} {v : Value} {l : List Og} (h : OwnOg w base v l) (o : Obj) : OwnOg (w.alloc o) base v l := h.kept ((Below.refl _ _).alloc (Nat.le_refl _) o)

theorem OwnOg.inL {w : World} {base : Nat} {v : Value} {l : List Og} (h : OwnOg w base v l) : ∃ a c, v = .slice a l.length c ∧ OgIn w a l := by
  rcases h with ⟨rfl, rfl⟩ | ⟨h1, g, cap, rfl, h2⟩
  · exact ⟨none, 0, rfl, Or.inl rfl⟩
  · exact ⟨some ⟨g, 0, none⟩, cap, rfl, Or.inr ⟨g, 0, rfl, (h2.lt g rfl).2, og_own rfl h2⟩⟩

theorem ogR_snoc (l : List Og) (x : Og) : ogR (l ++ [x]) = ogR l ++ (ogC x).toList := by rw [ogR_append, ogR_one]

/-- Another block is written. -/
theorem OwnOg.grown {w w' : World} {base : Nat} {v : Value} {l : List Og} {row : Option Nat} (h : OwnOg w base v l) (hg : w.grownBy w' row) (hr : ∀ g, row = some g → g < base) : OwnOg w' base v l := by
  rcases h with h | ⟨h1, g, cap, rfl, h2⟩
  · exact Or.inl h
  · refine Or.inr ⟨h1, g, cap, rfl, h2.kept hg ?_⟩
    right
    intro e
    have h3 := (h2.lt g rfl).1
    have := hr g (by rw [← e]; simp [Value.ownBlock])
    omega

theorem OwnOg.mono {w : World} {base B : Nat} {v : Value} {l : List Og} (h : OwnOg w base v l) (hB : B ≤ base) : OwnOg w B v l := by
  rcases h with h | ⟨h1, g, cap, rfl, h2, h3⟩
  · exact Or.inl h
  · refine Or.inr ⟨h1, g, cap, rfl, h2, ?_⟩
    rcases h3 with h3 | ⟨g', cap', cur, e1, e2, e3⟩
    · exact Or.inl h3
    · exact Or.inr ⟨g', cap', cur, e1, Nat.le_trans hB e2, e3⟩

/-- Its block. -/
theorem OwnOg.blk {w : World} {base : Nat} {v : Value} {l : List Og} (h : OwnOg w base v l) : v.ownBlock = none ∨ ∃ g C, v.ownBlock = some g ∧ base ≤ g ∧ Blk w g 111 C := by
  rcases h with ⟨rfl, rfl⟩ | ⟨h1, g, cap, rfl, h2⟩
  · exact Or.inl rfl
  · rcases h2.2 with ⟨h3, -⟩ | ⟨g1, cap1, cur1, e1, e2, e3, -⟩
    · cases h3
    · cases e1
      exact Or.inr ⟨g, cur1, rfl, e2, e3⟩

/-- A block of another type is written. -/
theorem OwnOg.other {w w' : World} {base B : Nat} {v : Value} {l : List Og} {T : TypeId} {C : Array Value} (h : OwnOg w base v l) (hB : Blk w B T C) (hT : T ≠ 111) (hg : w.grownBy w' (some B)) : OwnOg w' base v l := by
  have hb := h.blk
  rcases h with h | ⟨h1, g, cap, rfl, h2⟩
  · exact Or.inl h
  · refine Or.inr ⟨h1, g, cap, rfl, h2.kept hg ?_⟩
    right
    intro e
    rcases hb with hb | ⟨g1, C1, e1, e2, e3⟩
    · rw [hb] at e; cases e
    · rw [e1] at e
      cases e
      have h3 : w.heap[B]? = some (.cells C T (0, 0)) := hB
      have h4 : w.heap[B]? = some (.cells C1 111 (0, 0)) := e3
      rw [h3] at h4
      injection h4 with h4
      injection h4 with _ h5
      exact hT h5

theorem Tryz.ogParts : (Tryz.prog.info? 111).map (fun i => (i.zero, i.size, i.bytes)) = some (some (.agg (ogC zOg)), 3, 32) := by kernel_rfl

theorem fill_og (v : Og) : Instr.fill (fun i => some (i * 3, 3)) ((Array.range (1 * 3)).map ((Value.agg (ogC zOg)).cells[· % (Value.agg (ogC zOg)).cells.size]!)) [(0, .agg (ogC v))] = some (ogC v) := by kernel_rfl

/-- One comes behind. -/
theorem append_og {o : Oper} {a : Act} {w : World} {K : Act → World → Prop} {Q : Exit → Act → World → Prop} {s x : Operand} {base G : Nat} {v : Value} {l : List Og} (y : Og)
    (ho : o.op = .call { callee := .builtin .append, args := #[s, x], argTypes := #[27, 27] }) (hs : a.eval s = v) (hx : a.eval x = .slice (some ⟨G, 0, none⟩) 1 1)
    (hO : OwnOg w base v l) (hG : Blk w G 111 (ogC y)) (hlen : l.length ≤ 100000) (hbase : base ≤ w.heap.size)
    (h : ∀ v' w', OwnOg w' base v' (l ++ [y]) → Below base w w' → w.grownBy w' v.ownBlock → K (a.put o.dst v') w') : Oper.wp Tryz.prog o a w K Q := by
  obtain ⟨i0, hi, hz0, hz1, hz2⟩ := info_parts Tryz.ogParts
  have hnews : ∀ (j : Nat) u, (ogC y).toList[j]? = some u → w.cell? ((⟨G, 0, none⟩ : Addr).add j) = some u := fun j u hu => by
    rw [Addr.add_lit, Nat.zero_add]
    exact hG.cv j u (by simpa using hu)
  rcases hO with ⟨rfl, rfl⟩ | ⟨hne, g, cap, rfl, hown⟩
  · refine wp_append_lies w s x _ ho base 111 i0 (.agg (ogC zOg)) 3 32 Tryz.underlying27 hi hz0 hz1 hz2 rfl (by decide) (.slice none 0 0) 0 [] hs (World.ownsRow_nil w base _ 3) ⟨G, 0, none⟩ 1 1 (ogC y).toList hx rfl hnews (ogC_cells y) (by decide) (by unfold maxLen; omega) (by decide) hbase _ rfl ?_
    intro g cap w' hown hgrow hat hlt
    refine h _ _ (Or.inr ⟨by simp, g, cap, rfl, ?_⟩) ((Below.refl base w).grown hgrow hbase (fun q hq => by simp [Value.ownBlock] at hq)) hgrow
    rw [List.nil_append, ogR_one]
    exact hown
  · have hown' := hown
    refine wp_append_lies w s x _ ho base 111 i0 (.agg (ogC zOg)) 3 32 Tryz.underlying27 hi hz0 hz1 hz2 rfl (by decide) (.slice (some ⟨g, 0, none⟩) l.length cap) l.length (ogR l) hs hown ⟨G, 0, none⟩ 1 1 (ogC y).toList hx rfl hnews (ogC_cells y) (by decide) (by unfold maxLen; omega) (by omega) hbase _ rfl ?_
    intro g' cap' w' hown2 hgrow hat hlt
    obtain ⟨cur, hB, hge⟩ : ∃ cur, Blk w g 111 cur ∧ base ≤ g := by
      rcases hown'.2 with ⟨h1, -⟩ | ⟨g1, cap1, cur1, e1, e2, e3, -⟩
      · cases h1
      · cases e1
        exact ⟨cur1, e3, e2⟩
    refine h _ _ (Or.inr ⟨by simp, g', cap', by rw [List.length_append]; rfl, ?_⟩) ((Below.refl base w).grown hgrow hbase (fun q hq => by cases hq; exact hge)) hgrow
    rw [ogR_snoc, List.length_append]
    exact hown2

/-- Of one alone. -/
theorem slice_og {o : Oper} {a : Act} {w : World} {K : Act → World → Prop} {Q : Exit → Act → World → Prop} {x : Operand} (y : Og) (ho : o.op = .buildSlice 27 1 #[(0, x)]) (hx : a.eval x = .agg (ogC y))
    (h : ∀ w1, Blk w1 w.heap.size 111 (ogC y) → Below w.heap.size w w1 → w.heap.size < w1.heap.size → K (a.put o.dst (.slice (some ⟨w.heap.size, 0, none⟩) 1 1)) w1) : Oper.wp Tryz.prog o a w K Q := by
  obtain ⟨i0, hi, hz0, hz1, hz2⟩ := info_parts Tryz.ogParts
  refine wp_buildSlice 27 111 1 _ ho (ogC y) i0 (.agg (ogC zOg)) Tryz.underlying27 hi hz0 (by rw [hz1]; decide) (by rw [hz1]; decide) (by rw [hz1]; simp only [List.map_toArray, List.map_cons, List.map_nil, hx]; exact fill_og y) (h _ (Blk.new w _ _) ((Below.refl _ _).alloc (Nat.le_refl _) _) (Blk.new w _ _).lt)

theorem sliceL_og {ops : Array Oper} {rest : List Oper} {o : Oper} {a : Act} {w : World} {Q : Exit → Act → World → Prop} {x : Operand} (y : Og) (hg : o.guard = none) (ho : o.op = .buildSlice 27 1 #[(0, x)]) (hx : a.eval x = .agg (ogC y))
    (h : ∀ w1, Blk w1 w.heap.size 111 (ogC y) → Below w.heap.size w w1 → w.heap.size < w1.heap.size → wpList Tryz.prog ops Q rest (a.put o.dst (.slice (some ⟨w.heap.size, 0, none⟩) 1 1)) w1) : wpList Tryz.prog ops Q (o :: rest) a w :=
  wpList_plain hg fun _ hK => slice_og y ho hx fun w1 hB hb hs => hK _ _ (h w1 hB hb hs)

theorem appendL_og {ops : Array Oper} {rest : List Oper} {o : Oper} {a : Act} {w : World} {Q : Exit → Act → World → Prop} {s x : Operand} {base G : Nat} {v : Value} {l : List Og} (y : Og) (hg : o.guard = none)
    (ho : o.op = .call { callee := .builtin .append, args := #[s, x], argTypes := #[27, 27] }) (hs : a.eval s = v) (hx : a.eval x = .slice (some ⟨G, 0, none⟩) 1 1)
    (hO : OwnOg w base v l) (hG : Blk w G 111 (ogC y)) (hlen : l.length ≤ 100000) (hbase : base ≤ w.heap.size)
    (h : ∀ v' w', OwnOg w' base v' (l ++ [y]) → Below base w w' → w.grownBy w' v.ownBlock → wpList Tryz.prog ops Q rest (a.put o.dst v') w') : wpList Tryz.prog ops Q (o :: rest) a w :=
  wpList_plain hg fun _ hK => append_og y ho hs hx hO hG hlen hbase fun v' w' h1 h2 h3 => hK _ _ (h v' w' h1 h2 h3)

/-- All blocks of its kind stay. -/
theorem OwnSt.stay {w w' : World} {base : Nat} {v : Value} {l : List ByteArray} (h : OwnSt w base v l) (hK : ∀ X C, Blk w X 9 C → Blk w' X 9 C) : OwnSt w' base v l := by
  rcases h with h | ⟨h1, g, cap, rfl, h2, h3⟩
  · exact Or.inl h
  · refine Or.inr ⟨h1, g, cap, rfl, h2, ?_⟩
    rcases h3 with h3 | ⟨g', cap', cur, e1, e2, e3, e4⟩
    · exact Or.inl h3
    · exact Or.inr ⟨g', cap', cur, e1, e2, hK _ _ e3, e4⟩

theorem OwnSt.nilv {w : World} {base : Nat} {v : Value} {l : List ByteArray} (h : OwnSt w base v l) (hl : l = []) : v = .slice none 0 0 := by
  rcases h with h | ⟨h1, -⟩
  · exact h.2
  · exact absurd hl h1

/-- All blocks of its kind stay. -/
theorem OwnCp.stay {w w' : World} {base : Nat} {v : Value} {l : List Cp} (h : OwnCp w base v l) (hK : ∀ X C, Blk w X 86 C → Blk w' X 86 C) : OwnCp w' base v l := by
  rcases h with h | ⟨h1, g, cap, rfl, h2, h3⟩
  · exact Or.inl h
  · refine Or.inr ⟨h1, g, cap, rfl, h2, ?_⟩
    rcases h3 with h3 | ⟨g', cap', cur, e1, e2, e3, e4⟩
    · exact Or.inl h3
    · exact Or.inr ⟨g', cap', cur, e1, e2, hK _ _ e3, e4⟩

theorem OwnCp.nilv {w : World} {base : Nat} {v : Value} {l : List Cp} (h : OwnCp w base v l) (hl : l = []) : v = .slice none 0 0 := by
  rcases h with h | ⟨h1, -⟩
  · exact h.2
  · exact absurd hl h1

/-- All blocks of its kind stay. -/
theorem OwnMg.stay {w w' : World} {base : Nat} {v : Value} {l : List Mg} (h : OwnMg w base v l) (hK : ∀ X C, Blk w X 89 C → Blk w' X 89 C) : OwnMg w' base v l := by
  rcases h with h | ⟨h1, g, cap, rfl, h2, h3⟩
  · exact Or.inl h
  · refine Or.inr ⟨h1, g, cap, rfl, h2, ?_⟩
    rcases h3 with h3 | ⟨g', cap', cur, e1, e2, e3, e4⟩
    · exact Or.inl h3
    · exact Or.inr ⟨g', cap', cur, e1, e2, hK _ _ e3, e4⟩

theorem OwnMg.nilv {w : World} {base : Nat} {v : Value} {l : List Mg} (h : OwnMg w base v l) (hl : l = []) : v = .slice none 0 0 := by
  rcases h with h | ⟨h1, -⟩
  · exact h.2
  · exact absurd hl h1

/-- All blocks of its kind stay. -/
theorem OwnOg.stay {w w' : World} {base : Nat} {v : Value} {l : List Og} (h : OwnOg w base v l) (hK : ∀ X C, Blk w X 111 C → Blk w' X 111 C) : OwnOg w' base v l := by
  rcases h with h | ⟨h1, g, cap, rfl, h2, h3⟩
  · exact Or.inl h
  · refine Or.inr ⟨h1, g, cap, rfl, h2, ?_⟩
    rcases h3 with h3 | ⟨g', cap', cur, e1, e2, e3, e4⟩
    · exact Or.inl h3
    · exact Or.inr ⟨g', cap', cur, e1, e2, hK _ _ e3, e4⟩

theorem OwnOg.nilv {w : World} {base : Nat} {v : Value} {l : List Og} (h : OwnOg w base v l) (hl : l = []) : v = .slice none 0 0 := by
  rcases h with h | ⟨h1, -⟩
  · exact h.2
  · exact absurd hl h1

/-- Blocks of other types than these, but for one block, stay. -/
def KeepX (B : Nat) (ts : List TypeId) (w w' : World) : Prop := ∀ X T C, Blk w X T C → X ≠ B → T ∉ ts → Blk w' X T C

theorem KeepX.of {B : Nat} {ts : List TypeId} {w w' : World} (h : Below w.heap.size w w') : KeepX B ts w w' := fun _ _ _ hB _ _ => hB.kept h

theorem KeepX.trans {B : Nat} {ts : List TypeId} {w w' w'' : World} (h : KeepX B ts w w') (h' : KeepX B ts w' w'') : KeepX B ts w w'' := fun X T C hB h1 h2 => h' X T C (h X T C hB h1 h2) h1 h2

theorem KeepX.cell {B : Nat} {ts : List TypeId} {w w' : World} (hg : w.grownBy w' (some B)) : KeepX B ts w w' := fun X T C hX h1 _ => hX.grown hg (by simpa using h1)

theorem KeepX.row {B g : Nat} {ts : List TypeId} {w w' : World} {T0 : TypeId} {D : Array Value} (hG : Blk w g T0 D) (hT : T0 ∈ ts) (hg : w.grownBy w' (some g)) : KeepX B ts w w' := fun X T C hX _ h2 => by
  refine hX.grown hg ?_
  intro q
  have q' : X = g := by simpa using q
  rw [q'] at hX
  have h3 : w.heap[g]? = some (.cells C T (0, 0)) := hX
  have h4 : w.heap[g]? = some (.cells D T0 (0, 0)) := hG
  rw [h3] at h4
  injection h4 with h4
  injection h4 with _ h5
  exact h2 (h5 ▸ hT)

theorem KeepX.same {B : Nat} {ts : List TypeId} {w w' : World} (hg : w.grownBy w' none) : KeepX B ts w w' := fun X T C hX _ _ => hX.grown hg (by simp)

theorem KeepX.own {B : Nat} {ts : List TypeId} {w w' : World} {v : Value} {base : Nat} {T0 : TypeId} (h : v.ownBlock = none ∨ ∃ g C, v.ownBlock = some g ∧ base ≤ g ∧ Blk w g T0 C) (hT : T0 ∈ ts) (hg : w.grownBy w' v.ownBlock) : KeepX B ts w w' := by
  rcases h with e | ⟨g, C, e, _, hB⟩
  · rw [e] at hg; exact KeepX.same hg
  · rw [e] at hg; exact KeepX.row hB hT hg

end Go.Proofs.YtocgnbbnaamjjaaGreatDoor

namespace Go.Proofs.YtocgnbbnaamjjaaGreatDoor
open Go.RowKit
attribute [local go_sem ↓] Go.wp_at_zero Go.wp_at_succ
set_option linter.unusedSimpArgs false
set_option linter.unusedVariables false
set_option maxRecDepth 100000

theorem keep_St {w w' : World} {v : Value} {l : List ByteArray} {base : Nat} (hO : OwnSt w base v l) (hg : w.grownBy w' v.ownBlock) {X : Nat} {T : TypeId} {C : Array Value} (hX : Blk w X T C) (hT : T ≠ 9) : Blk w' X T C :=
  KeepX.own (B := X + 1) (ts := [9]) hO.blk (by simp) hg X T C hX (by omega) (by simpa using hT)

set_option maxHeartbeats 1600000 in
theorem takeOne_st (B k base : Nat) (y : ByteArray) (l : List ByteArray) (v : Value) (C : Array Value) (w : World) (hB : Blk w B 29 C) (hk : C[k]? = some v) (hO : OwnSt w base v l) (hn : v.ownBlock = none) (hlen : l.length ≤ 90000) (hbase : base ≤ w.heap.size) :
    Calls Tryz.prog 53 #[.pointer (some ⟨B, k, none⟩), .string y, .func (.func 55) #[] #[]] w fun e w' => e = .returned (.bool (okSt y)) ∧ ∃ v', Blk w' B 29 (C.setIfInBounds k v') ∧ OwnSt w' base v' (l ++ [y]) ∧ KeepX B [] w w' ∧ (∀ D, D ≤ base → D ≤ B → Below D w w') := by
  have HM := Lib.hid (fun W => isText_any y W)
  have hkz : k < C.size := by
    rcases Nat.lt_or_ge k C.size with q | q
    · exact q
    · rw [Array.getElem?_eq_none q] at hk; cases hk
  have hlt := hB.lt
  have hst : ∀ v' : Value, v'.cells = #[v'] → (C.toList.take k ++ v'.cells.toList ++ C.toList.drop (k + v'.cells.toList.length)).toArray = C.setIfInBounds k v' := fun v' e => st_cell C _ k v' e hkz rfl
  have HST := Lib.hid hst
  have hk1 : Hid (k + 1 ≤ C.size) := hkz
  clear hst hkz
  have c0 := hB.cv k v hk
  have hl1 : Hid ((l ++ [y]).length = l.length + 1) := by show _ = _; simp
  go_enter Tryz.func53, Tryz.ntmps53
  go_wp2_with (first
    | (refine sliceL_sv y rfl rfl rfl (fun w2 HG2 b2 hlt2 => ?_); have HB2 := hB.kept b2; have HO2 := hO.kept b2; have K2 : KeepX B [] w w2 := .of b2; have hb2 := Nat.le_trans hbase b2.size; have BB2 : ∀ D, D ≤ base → D ≤ B → Below D w w2 := fun D h1 h2 => b2.mono (by omega))
    | (refine appendL_st y rfl rfl rfl rfl HO2 HG2 (by omega) hb2 (fun v3 w3 HO3 b3 g3 => ?_); have K3 := K2.trans (KeepX.same (by rw [← hn]; exact g3)); have BB3 : ∀ D, D ≤ base → D ≤ B → Below D w w3 := fun D h1 h2 => (BB2 D h1 h2).trans (b3.mono h1); have HB3 := keep_St HO2 g3 HB2 (by decide); obtain ⟨a3, c3, hv3, -⟩ := HO3.inL; subst hv3; rw [hl1.out] at HO3)
    | (refine store_blk (k := k) 24 (.slice a3 (l.length + 1) c3) _ (by rfl) rfl rfl rfl HB3 (by kernel_rfl) hk1.out (by rfl) (HST.out _ rfl) (fun w4 HB4 b4 g4 => ?_); have HO4 := HO3.other HB3 (by decide) g4; have K4 := K3.trans (KeepX.cell g4); have BB4 : ∀ D, D ≤ base → D ≤ B → Below D w w4 := fun D h1 h2 => (BB3 D h1 h2).trans (b4.mono h2)))
  refine (HM.out _).mono ?_
  rintro e w5 ⟨rfl, b5⟩
  have hz4 : w.heap.size ≤ w4.heap.size := (BB4 0 (Nat.zero_le _) (Nat.zero_le _)).size
  go_wp2
  go_ret
  exact ⟨rfl, _, HB4.kept b5, HO4.kept b5, K4.trans (.of b5), fun D h1 h2 => (BB4 D h1 h2).trans (b5.mono (by omega))⟩

end Go.Proofs.YtocgnbbnaamjjaaGreatDoor

namespace Go.Proofs.YtocgnbbnaamjjaaGreatDoor
open Go
set_option linter.unusedVariables false
set_option linter.unusedSimpArgs false

section
variable {P : Program} {ops : Array Oper} {Q : Exit → Act → World → Prop} {md : Region.Mode} {S : World → Prop} {D : Nat → Bool}

def wpAnyS (P : Program) (md : Region.Mode) (ops : Array Oper) (Q : Exit → Act → World → Prop) (S : World → Prop) (D : Nat → Bool) : Nat → Array Bool → Act → World → Prop
  | 0, listed, a, w => Region.ready md ops listed = [] ∧ Q .normal a w
  | fuel + 1, listed, a, w =>
    (Region.ready md ops listed = [] → Q .normal a w) ∧
    ∀ i ∈ Region.ready md ops listed, wpOp P ops Q i (fun a' w' => (D i = true → wpAny P md ops Q fuel (listed.setIfInBounds i true) a' w') ∧ (D i = false → S w' ∧ wpAnyS P md ops Q S D fuel (listed.setIfInBounds i true) a' w')) a w

theorem wpAny_of_S : ∀ (fuel : Nat) (listed : Array Bool) (a : Act) (w : World), wpAnyS P md ops Q S D fuel listed a w → wpAny P md ops Q fuel listed a w
  | 0, _, _, _, h => h
  | fuel + 1, _, _, _, h => ⟨h.1, fun i hi => wpOp_mono (fun a' w' h' => by
      cases hD : D i with
      | true => exact h'.1 hD
      | false => exact wpAny_of_S fuel _ a' w' (h'.2 hD).2) (h.2 i hi)⟩

theorem wpAnyS_first {i : Nat} {oi : Oper} {v : Value} (hi : ops[i]? = some oi) (hsel : ∀ (j : Nat) (o : Oper) cs b, ops[j]? = some o → o.op ≠ .select cs b)
    (hQ : ∀ c a w, Q (.panic c) (a.put oi.dst v) w → Q (.panic c) a w) (hDi : D i = false)
    (hD : ∀ j oj, ops[j]? = some oj → D j = true → ∃ e ∈ oj.after, Region.binds md e = true ∧ e.on = i) :
    ∀ (fuel : Nat) (listed : Array Bool) (a : Act) (w : World),
      (∀ j oj, ops[j]? = some oj → j ≠ i → listed.getD j true = false → (∀ e ∈ oj.after, Region.binds md e = true → e.on ≠ i) → oi.apart ops oj = true) →
      i ∈ Region.ready md ops listed → YieldsIf P ops S oi v a → S w →
      wpAnyS P md ops Q S D fuel (listed.setIfInBounds i true) (a.put oi.dst v) w → wpAnyS P md ops Q S D (fuel + 1) listed a w := by
  intro fuel
  induction fuel with
  | zero =>
    intro listed a w _ hr hy hS H
    refine ⟨fun h => (by rw [h] at hr; cases hr), fun j hj => ?_⟩
    by_cases hji : j = i
    · subst hji
      exact hy.wpOp hi hS ⟨fun h => (by rw [hDi] at h; cases h), fun _ => ⟨hS, H⟩⟩
    · have := ready_mono hj hji
      rw [H.1] at this
      cases this
  | succ fuel ih =>
    intro listed a w hfree hr hy hS H
    refine ⟨fun h => (by rw [h] at hr; cases hr), fun j hj => ?_⟩
    by_cases hji : j = i
    · subst hji
      exact hy.wpOp hi hS ⟨fun h => (by rw [hDi] at h; cases h), fun _ => ⟨hS, H⟩⟩
    · have h1 := H.2 j (ready_mono hj hji)
      obtain ⟨hjun, oj, hoj, hall⟩ := mem_ready.1 hj
      have hnot : ∀ e ∈ oj.after, Region.binds md e = true → e.on ≠ i := fun e he hb heq => by
        have h1 := hall e he hb
        have h0 := (mem_ready.1 hr).1
        rw [heq] at h1
        rcases Nat.lt_or_ge i listed.size with h' | h'
        · simp [h'] at h0 h1; rw [h0] at h1; cases h1
        · simp [Array.getElem?_eq_none h'] at h1
      have hDj : D j = false := by
        cases hq : D j with
        | false => rfl
        | true =>
          obtain ⟨e, he, hb, heq⟩ := hD j oj hoj hq
          exact absurd heq (hnot e he hb)
      have h1' : wpOp P ops Q j (fun a' w' => S w' ∧ wpAnyS P md ops Q S D fuel ((listed.setIfInBounds i true).setIfInBounds j true) a' w') (a.put oi.dst v) w := wpOp_mono (fun a' w' h => h.2 hDj) h1
      have h2 := wpOp_putIf hoj (hfree j oj hoj hji hjun hnot) (fun cs b => hsel i oi cs b hi) (fun cs b => hsel j oj cs b hoj) hQ hy h1'
      have hfree' : ∀ k ok, ops[k]? = some ok → k ≠ i → (listed.setIfInBounds j true).getD k true = false →
          (∀ e ∈ ok.after, Region.binds md e = true → e.on ≠ i) → oi.apart ops ok = true := fun k ok hk hki hun hno => by
        refine hfree k ok hk hki ?_ hno
        by_cases hjk : j = k
        · subst hjk; exact hjun
        · rw [getD_set_ne true hjk] at hun; exact hun
      refine wpOp_mono (fun a' w' h3 => ⟨fun h => (by rw [hDj] at h; cases h), fun _ => ⟨h3.2.1, ih (listed.setIfInBounds j true) a' w' hfree' (ready_mono hr (Ne.symm hji)) h3.1 h3.2.1 ?_⟩⟩) h2
      rw [Array.setIfInBounds_comm _ _ hji]
      exact h3.2.2

theorem wpAnyS_first0 {i : Nat} {oi : Oper} {v : Value} (hi : ops[i]? = some oi) (hsel : ∀ (j : Nat) (o : Oper) cs b, ops[j]? = some o → o.op ≠ .select cs b)
    (hQ : ∀ c a w, Q (.panic c) (a.put oi.dst v) w → Q (.panic c) a w) (hDi : D i = false) :
    ∀ (fuel : Nat) (listed : Array Bool) (a : Act) (w : World),
      (∀ j oj, ops[j]? = some oj → j ≠ i → listed.getD j true = false → (∀ e ∈ oj.after, Region.binds md e = true → e.on ≠ i) → oi.apart ops oj = true) →
      i ∈ Region.ready md ops listed → Yields P ops oi v a → S w →
      wpAnyS P md ops Q S D fuel (listed.setIfInBounds i true) (a.put oi.dst v) w → wpAnyS P md ops Q S D (fuel + 1) listed a w := by
  intro fuel
  induction fuel with
  | zero =>
    intro listed a w _ hr hy hS H
    refine ⟨fun h => (by rw [h] at hr; cases hr), fun j hj => ?_⟩
    by_cases hji : j = i
    · subst hji
      exact (hy.yieldsIf (S := S)).wpOp hi hS ⟨fun h => (by rw [hDi] at h; cases h), fun _ => ⟨hS, H⟩⟩
    · have := ready_mono hj hji
      rw [H.1] at this
      cases this
  | succ fuel ih =>
    intro listed a w hfree hr hy hS H
    refine ⟨fun h => (by rw [h] at hr; cases hr), fun j hj => ?_⟩
    by_cases hji : j = i
    · subst hji
      exact (hy.yieldsIf (S := S)).wpOp hi hS ⟨fun h => (by rw [hDi] at h; cases h), fun _ => ⟨hS, H⟩⟩
    · have h1 := H.2 j (ready_mono hj hji)
      obtain ⟨hjun, oj, hoj, hall⟩ := mem_ready.1 hj
      have hnot : ∀ e ∈ oj.after, Region.binds md e = true → e.on ≠ i := fun e he hb heq => by
        have h1 := hall e he hb
        have h0 := (mem_ready.1 hr).1
        rw [heq] at h1
        rcases Nat.lt_or_ge i listed.size with h' | h'
        · simp [h'] at h0 h1; rw [h0] at h1; cases h1
        · simp [Array.getElem?_eq_none h'] at h1
      have h2 := wpOp_put hoj (hfree j oj hoj hji hjun hnot) (fun cs b => hsel i oi cs b hi) (fun cs b => hsel j oj cs b hoj) hQ hy h1
      have hfree' : ∀ k ok, ops[k]? = some ok → k ≠ i → (listed.setIfInBounds j true).getD k true = false →
          (∀ e ∈ ok.after, Region.binds md e = true → e.on ≠ i) → oi.apart ops ok = true := fun k ok hk hki hun hno => by
        refine hfree k ok hk hki ?_ hno
        by_cases hjk : j = k
        · subst hjk; exact hjun
        · rw [getD_set_ne true hjk] at hun; exact hun
      refine wpOp_mono (fun a' w' h3 => ⟨fun hDj => ?_, fun hDj => ?_⟩) h2
      · refine wpAny_first hi hsel hQ fuel (listed.setIfInBounds j true) a' w' hfree' (ready_mono hr (Ne.symm hji)) h3.1 ?_
        rw [Array.setIfInBounds_comm _ _ hji]
        exact h3.2.1 hDj
      · refine ⟨(h3.2.2 hDj).1, ih (listed.setIfInBounds j true) a' w' hfree' (ready_mono hr (Ne.symm hji)) h3.1 (h3.2.2 hDj).1 ?_⟩
        rw [Array.setIfInBounds_comm _ _ hji]
        exact (h3.2.2 hDj).2

/-- Every operation of D waits for number i. -/
def waitsD (md : Region.Mode) (ops : Array Oper) (D : Nat → Bool) (i : Nat) : Bool :=
  (List.range ops.size).all fun j => !(D j) || (match ops[j]? with | some oj => oj.after.toList.any (fun e => Region.binds md e && (e.on == i)) | none => true)

theorem waitsD_spec {i : Nat} (h : waitsD md ops D i = true) : ∀ j oj, ops[j]? = some oj → D j = true → ∃ e ∈ oj.after, Region.binds md e = true ∧ e.on = i := fun j oj hoj hD => by
  have hj : j < ops.size := (Array.getElem?_eq_some_iff.1 hoj).1
  have h1 := List.all_eq_true.1 h j (List.mem_range.2 hj)
  rw [hD, hoj] at h1
  simp only [Bool.not_true, Bool.false_or, List.any_eq_true, Bool.and_eq_true, beq_iff_eq] at h1
  obtain ⟨e, he, hb, heq⟩ := h1
  exact ⟨e, by simpa using he, hb, heq⟩

theorem wpAnyS_take {i : Nat} {oi : Oper} {v : Value} {fuel : Nat} {listed : Array Bool} {a : Act} {w : World} (hi : ops[i]? = some oi)
    (hs : Region.noSelect ops = true) (hf : Region.free md ops listed i = true) (hr : (Region.ready md ops listed).contains i = true) (hDi : D i = false) (hD : waitsD md ops D i = true)
    (hQ : ∀ c a w, Q (.panic c) (a.put oi.dst v) w → Q (.panic c) a w) (hy : YieldsIf P ops S oi v a) (hS : S w)
    (h : wpAnyS P md ops Q S D fuel (listed.setIfInBounds i true) (a.put oi.dst v) w) : wpAnyS P md ops Q S D (fuel + 1) listed a w :=
  wpAnyS_first hi (Region.noSelect_spec hs) hQ hDi (waitsD_spec hD) fuel listed a w (Region.free_spec hi hf) (by simpa using hr) hy hS h

theorem wpAnyS_take0 {i : Nat} {oi : Oper} {v : Value} {fuel : Nat} {listed : Array Bool} {a : Act} {w : World} (hi : ops[i]? = some oi)
    (hs : Region.noSelect ops = true) (hf : Region.free md ops listed i = true) (hr : (Region.ready md ops listed).contains i = true) (hDi : D i = false)
    (hQ : ∀ c a w, Q (.panic c) (a.put oi.dst v) w → Q (.panic c) a w) (hw : Region.wanted oi (yielded ops a.tmps) = true) (hy : ∀ w, (execOp a.eval oi).run P w = .ok (.value v) w) (hS : S w)
    (h : wpAnyS P md ops Q S D fuel (listed.setIfInBounds i true) (a.put oi.dst v) w) : wpAnyS P md ops Q S D (fuel + 1) listed a w :=
  wpAnyS_first0 hi (Region.noSelect_spec hs) hQ hDi fuel listed a w (Region.free_spec hi hf) (by simpa using hr) (Or.inl ⟨hw, hy⟩) hS h

/-- The only one that may come up. -/
theorem wpAnyS_one {r : Nat} {o : Oper} {fuel : Nat} {listed : Array Bool} {a : Act} {w : World} (hr : Region.ready md ops listed = [r]) (ho : ops[r]? = some o) (hw : Region.wanted o (yielded ops a.tmps) = true) (hD : D r = false)
    (h : ∀ K : Act → World → Prop, (∀ a' w', S w' → (S w' → wpAnyS P md ops Q S D fuel (listed.setIfInBounds r true) a' w') → K a' w') → o.wp P a w K Q) : wpAnyS P md ops Q S D (fuel + 1) listed a w := by
  refine ⟨fun h0 => (by rw [hr] at h0; cases h0), fun i hi => ?_⟩
  rw [hr] at hi
  obtain rfl := List.mem_singleton.1 hi
  unfold wpOp
  simp only [ho, hw, if_true]
  exact Or.inl (h _ fun a' w' h1 h2 => ⟨fun q => (by rw [hD] at q; cases q), fun _ => ⟨h1, h2 h1⟩⟩)

theorem wpAnyS_last {r : Nat} {o : Oper} {fuel : Nat} {listed : Array Bool} {a : Act} {w : World} (hr : Region.ready md ops listed = [r]) (ho : ops[r]? = some o) (hw : Region.wanted o (yielded ops a.tmps) = true) (hD : D r = true)
    (h : ∀ K : Act → World → Prop, (∀ a' w', wpAny P md ops Q fuel (listed.setIfInBounds r true) a' w' → K a' w') → o.wp P a w K Q) : wpAnyS P md ops Q S D (fuel + 1) listed a w := by
  refine ⟨fun h0 => (by rw [hr] at h0; cases h0), fun i hi => ?_⟩
  rw [hr] at hi
  obtain rfl := List.mem_singleton.1 hi
  unfold wpOp
  simp only [ho, hw, if_true]
  exact Or.inl (h _ fun a' w' h1 => ⟨fun _ => h1, fun q => (by rw [hD] at q; cases q)⟩)

theorem wpAny_one {r : Nat} {o : Oper} {fuel : Nat} {listed : Array Bool} {a : Act} {w : World} (hr : Region.ready md ops listed = [r]) (ho : ops[r]? = some o) (hw : Region.wanted o (yielded ops a.tmps) = true)
    (h : ∀ K : Act → World → Prop, (∀ a' w', wpAny P md ops Q fuel (listed.setIfInBounds r true) a' w' → K a' w') → o.wp P a w K Q) : wpAny P md ops Q (fuel + 1) listed a w := by
  refine ⟨fun h0 => (by rw [hr] at h0; cases h0), fun i hi => ?_⟩
  rw [hr] at hi
  obtain rfl := List.mem_singleton.1 hi
  unfold wpOp
  simp only [ho, hw, if_true]
  exact Or.inl (h _ fun a' w' h1 => h1)

theorem wp_region_S {id : Nat} {a : Act} {w : World} (S : World → Prop) (D : Nat → Bool) (hm : P.follows .mixedOrders = true) (h0 : S w.drew)
    (h : S w.drew → wpAnyS P .any ops Q S D ops.size (Array.replicate ops.size false) a w.drew) : (Code.region id ops true).wp P Q a w :=
  wp_region_any hm (wpAny_of_S _ _ _ _ (h h0))
end

end Go.Proofs.YtocgnbbnaamjjaaGreatDoor

namespace Go.Proofs.YtocgnbbnaamjjaaGreatDoor
open Go.RowKit
attribute [local go_sem ↓] Go.wp_at_zero Go.wp_at_succ
set_option linter.unusedSimpArgs false
set_option linter.unusedVariables false
set_option maxRecDepth 100000

theorem keep_Cp {w w' : World} {v : Value} {l : List Cp} {base : Nat} (hO : OwnCp w base v l) (hg : w.grownBy w' v.ownBlock) {X : Nat} {T : TypeId} {C : Array Value} (hX : Blk w X T C) (hT : T ≠ 86) : Blk w' X T C :=
  KeepX.own (B := X + 1) (ts := [86]) hO.blk (by simp) hg X T C hX (by omega) (by simpa using hT)

theorem own_ne_cp {w w2 : World} {v : Value} {l : List Cp} {base q : Nat} (hO : OwnCp w base v l) (h2 : OwnCp w2 base v l) (hq : w.heap.size ≤ q) : some q ≠ v.ownBlock := by
  intro e
  rcases hO.blk with e2 | ⟨g, C, e2, _, hB⟩
  · rw [e2] at e; cases e
  · rw [e2] at e
    cases e
    have := hB.lt
    omega

set_option maxHeartbeats 1600000 in
theorem takeOne_cp (B k base : Nat) (y : Cp) (hr : rgCp y) (l : List Cp) (v : Value) (C : Array Value) (w : World) (hB : Blk w B 29 C) (hk : C[k]? = some v) (hO : OwnCp w base v l) (hn : v.ownBlock = none) (hlen : l.length ≤ 90000) (hbase : base ≤ w.heap.size) :
    Calls Tryz.prog 56 #[.pointer (some ⟨B, k, none⟩), .agg (cpC y), .func (.func 58) #[] #[]] w fun e w' => e = .returned (.bool (okCp y)) ∧ ∃ v', Blk w' B 29 (C.setIfInBounds k v') ∧ OwnCp w' base v' (l ++ [y]) ∧ KeepX B [] w w' ∧ (∀ D, D ≤ base → D ≤ B → Below D w w') := by
  have HM := Lib.hid (fun W => isCaps_any y hr W)
  have hkz : k < C.size := by
    rcases Nat.lt_or_ge k C.size with q | q
    · exact q
    · rw [Array.getElem?_eq_none q] at hk; cases hk
  have hlt := hB.lt
  have hst : ∀ v' : Value, v'.cells = #[v'] → (C.toList.take k ++ v'.cells.toList ++ C.toList.drop (k + v'.cells.toList.length)).toArray = C.setIfInBounds k v' := fun v' e => st_cell C _ k v' e hkz rfl
  have HST := Lib.hid hst
  have hk1 : Hid (k + 1 ≤ C.size) := hkz
  clear hst hkz
  have b1 : Below w.heap.size w (w.alloc (.cells (cpC y) 86)) := (Below.refl _ _).alloc (Nat.le_refl _) _
  have HG1 := Blk.new w 86 (cpC y)
  have HB1 := hB.kept b1
  have HO1 := hO.kept b1
  clear hr
  go_enter Tryz.func56, Tryz.ntmps56
  go_upto_region 1 with (fail)
  generalize w.alloc (.cells (cpC y) 86) = w1 at *
  have c1 := HB1.cv k v hk
  have hc1 : Hid (w1.drew.cell? ⟨B, k, none⟩ = some v) := c1
  have hs1 := b1.size
  refine wp_region_noPanic ?_
  refine wp_region_S (fun w' => w'.cell? ⟨B, k, none⟩ = some v) (fun j => j == 6) (by kernel_rfl) (c1) (fun hHeld => ?_)
  refine wpAnyS_take0 (i := 0) (v := ?_) rfl (by kernel_rfl) (by kernel_rfl) (by kernel_rfl) (by rfl) (fun _ _ _ h => h) (by rfl) ?_ (by assumption) ?_
  rotate_left
  · intro w; go_simp; (try with_reducible rfl)
  (try simp only [Act.put, List.getElem_toArray, List.getElem_cons_zero, List.getElem_cons_succ, List.setIfInBounds_toArray, List.set_cons_zero, List.set_cons_succ])
  refine wpAnyS_take0 (i := 1) (v := ?_) rfl (by kernel_rfl) (by kernel_rfl) (by kernel_rfl) (by rfl) (fun _ _ _ h => h) (by rfl) ?_ (by assumption) ?_
  rotate_left
  · intro w; go_simp; (try with_reducible rfl)
  (try simp only [Act.put, List.getElem_toArray, List.getElem_cons_zero, List.getElem_cons_succ, List.setIfInBounds_toArray, List.set_cons_zero, List.set_cons_succ])
  refine wpAnyS_take0 (i := 2) (v := ?_) rfl (by kernel_rfl) (by kernel_rfl) (by kernel_rfl) (by rfl) (fun _ _ _ h => h) (by rfl) ?_ (by assumption) ?_
  rotate_left
  · intro w; go_simp; (try with_reducible rfl)
  (try simp only [Act.put, List.getElem_toArray, List.getElem_cons_zero, List.getElem_cons_succ, List.setIfInBounds_toArray, List.set_cons_zero, List.set_cons_succ])
  refine wpAnyS_take (i := 3) (v := v) rfl (by kernel_rfl) (by kernel_rfl) (by kernel_rfl) (by rfl) (by kernel_rfl) (fun _ _ _ h => h) (Or.inl ⟨by rfl, fun w hSw => by (try dsimp only at hSw); go_simp⟩) (by assumption) ?_
  (try simp only [Act.put, List.getElem_toArray, List.getElem_cons_zero, List.getElem_cons_succ, List.setIfInBounds_toArray, List.set_cons_zero, List.set_cons_succ])
  refine wpAnyS_one (r := 4) (by kernel_rfl) rfl (by rfl) (by rfl) (fun K hK => ?_)
  (try simp only [List.getElem_toArray, List.getElem_cons_zero, List.getElem_cons_succ])
  refine wp_load_op (k := 0) 86 (cpC y) rfl rfl (show Blk w1.drew w.heap.size 86 (cpC y) from HG1) (by kernel_rfl) (by kernel_rfl) rfl ?_
  refine hK _ _ ?_ (fun hHeld => ?_)
  · exact hc1.out
  clear hK K
  (try simp only [Act.put, List.getElem_toArray, List.getElem_cons_zero, List.getElem_cons_succ, List.setIfInBounds_toArray, List.set_cons_zero, List.set_cons_succ])
  refine wpAnyS_one (r := 5) (by kernel_rfl) rfl (by rfl) (by rfl) (fun K hK => ?_)
  (try simp only [List.getElem_toArray, List.getElem_cons_zero, List.getElem_cons_succ])
  refine slice_cp y rfl rfl (fun w2 HG2 b2 hlt2 => ?_)
  have b2' : Below w1.heap.size w1 w2 := ((Below.refl _ w1).drew).trans b2
  have HB2 := HB1.kept b2'
  have HO2 := HO1.kept b2'
  have HP2 := HG1.kept b2'
  have c2 := HB2.cv k v hk
  have hs2 : w1.heap.size ≤ w2.heap.size := b2'.size
  have E2 := b1.trans (b2'.mono hs1)
  clear b2
  refine hK _ _ ?_ (fun hHeld => ?_)
  · exact c2
  clear hK K
  (try simp only [Act.put, List.getElem_toArray, List.getElem_cons_zero, List.getElem_cons_succ, List.setIfInBounds_toArray, List.set_cons_zero, List.set_cons_succ])
  refine wpAnyS_last (r := 6) (by kernel_rfl) rfl (by rfl) (by rfl) (fun K hK => ?_)
  (try simp only [List.getElem_toArray, List.getElem_cons_zero, List.getElem_cons_succ])
  refine append_cp y rfl rfl rfl HO2 HG2 (by omega) (by omega) (fun v3 w3 HO3 b3 g3 => ?_)
  have HB3 := keep_Cp HO2 g3 HB2 (by decide)
  have K3 : KeepX B [] w w3 := (KeepX.of E2).trans (KeepX.same (by rw [← hn]; exact g3))
  have BB3 : ∀ D, D ≤ base → D ≤ B → Below D w w3 := fun D h1 h2 => (E2.mono (by omega)).trans (b3.mono h1)
  have HP3 : Blk w3 w.heap.size 86 (cpC y) := HP2.grown g3 (own_ne_cp hO HO2 (Nat.le_refl _))
  obtain ⟨a3, c3, hv3, -⟩ := HO3.inL
  subst hv3
  refine hK _ _ ?_
  clear hK K
  (try simp only [Act.put, List.getElem_toArray, List.getElem_cons_zero, List.getElem_cons_succ, List.setIfInBounds_toArray, List.set_cons_zero, List.set_cons_succ])
  refine wpAny_take (i := 7) (v := ?_) rfl (by kernel_rfl) (by kernel_rfl) (by kernel_rfl) (fun _ _ _ h => h) (Or.inl ⟨by rfl, ?_⟩) ?_
  rotate_left
  · intro w; go_simp; (try with_reducible rfl)
  (try simp only [Act.put, List.getElem_toArray, List.getElem_cons_zero, List.getElem_cons_succ, List.setIfInBounds_toArray, List.set_cons_zero, List.set_cons_succ])
  refine wpAny_one (r := 8) (by kernel_rfl) rfl (by rfl) (fun K hK => ?_)
  (try simp only [List.getElem_toArray, List.getElem_cons_zero, List.getElem_cons_succ])
  refine wp_store_op (k := k) 25 (.slice a3 (l ++ [y]).length c3) _ (by rfl) rfl rfl HB3 (by kernel_rfl) hk1.out (by rfl) (HST.out _ rfl) (fun w4 HB4 b4 g4 => ?_)
  have HO4 := HO3.other HB3 (by decide) g4
  have K4 := K3.trans (KeepX.cell g4)
  have BB4 : ∀ D, D ≤ base → D ≤ B → Below D w w4 := fun D h1 h2 => (BB3 D h1 h2).trans (b4.mono h2)
  have HP4 := HP3.grown g4 (by simp; omega)
  refine hK _ _ ?_
  clear hK K
  (try simp only [Act.put, List.getElem_toArray, List.getElem_cons_zero, List.getElem_cons_succ, List.setIfInBounds_toArray, List.set_cons_zero, List.set_cons_succ])
  refine wpAny_done (by kernel_rfl) ?_ _
  refine NoPanic.normal ?_
  have hz4 : w.heap.size ≤ w4.heap.size := (BB4 0 (Nat.zero_le _) (Nat.zero_le _)).size
  go_wp2_with (refine load_blk (k := 0) 86 (cpC y) (by rfl) rfl rfl HP4 (by kernel_rfl) (by kernel_rfl) rfl ?_)
  refine (HM.out _).mono ?_
  rintro e w5 ⟨rfl, b5⟩
  go_wp2
  go_ret
  exact ⟨rfl, _, HB4.kept b5, HO4.kept b5, K4.trans (.of b5), fun D h1 h2 => (BB4 D h1 h2).trans (b5.mono (by omega))⟩

end Go.Proofs.YtocgnbbnaamjjaaGreatDoor

namespace Go.Proofs.YtocgnbbnaamjjaaGreatDoor
open Go.RowKit
attribute [local go_sem ↓] Go.wp_at_zero Go.wp_at_succ
set_option linter.unusedSimpArgs false
set_option linter.unusedVariables false
set_option maxRecDepth 100000

theorem keep_Mg {w w' : World} {v : Value} {l : List Mg} {base : Nat} (hO : OwnMg w base v l) (hg : w.grownBy w' v.ownBlock) {X : Nat} {T : TypeId} {C : Array Value} (hX : Blk w X T C) (hT : T ≠ 89) : Blk w' X T C :=
  KeepX.own (B := X + 1) (ts := [89]) hO.blk (by simp) hg X T C hX (by omega) (by simpa using hT)

theorem own_ne_mg {w w2 : World} {v : Value} {l : List Mg} {base q : Nat} (hO : OwnMg w base v l) (h2 : OwnMg w2 base v l) (hq : w.heap.size ≤ q) : some q ≠ v.ownBlock := by
  intro e
  rcases hO.blk with e2 | ⟨g, C, e2, _, hB⟩
  · rw [e2] at e; cases e
  · rw [e2] at e
    cases e
    have := hB.lt
    omega

set_option maxHeartbeats 1600000 in
theorem takeOne_mg (B k base : Nat) (y : Mg) (hr : rgMg y) (l : List Mg) (v : Value) (C : Array Value) (w : World) (hB : Blk w B 29 C) (hk : C[k]? = some v) (hO : OwnMg w base v l) (hlen : l.length ≤ 90000) (hbase : base ≤ w.heap.size) :
    Calls Tryz.prog 59 #[.pointer (some ⟨B, k, none⟩), .agg (mgC y), .func (.func 61) #[] #[]] w fun e w' => e = .returned (.bool (okMg y)) ∧ ∃ v', Blk w' B 29 (C.setIfInBounds k v') ∧ OwnMg w' base v' (l ++ [y]) ∧ KeepX B [89] w w' ∧ (∀ D, D ≤ base → D ≤ B → Below D w w') := by
  have HM := Lib.hid (fun W => isManage_any y hr W)
  have hkz : k < C.size := by
    rcases Nat.lt_or_ge k C.size with q | q
    · exact q
    · rw [Array.getElem?_eq_none q] at hk; cases hk
  have hlt := hB.lt
  have hst : ∀ v' : Value, v'.cells = #[v'] → (C.toList.take k ++ v'.cells.toList ++ C.toList.drop (k + v'.cells.toList.length)).toArray = C.setIfInBounds k v' := fun v' e => st_cell C _ k v' e hkz rfl
  have HST := Lib.hid hst
  have hk1 : Hid (k + 1 ≤ C.size) := hkz
  clear hst hkz
  have b1 : Below w.heap.size w (w.alloc (.cells (mgC y) 89)) := (Below.refl _ _).alloc (Nat.le_refl _) _
  have HG1 := Blk.new w 89 (mgC y)
  have HB1 := hB.kept b1
  have HO1 := hO.kept b1
  clear hr
  go_enter Tryz.func59, Tryz.ntmps59
  go_upto_region 1 with (fail)
  generalize w.alloc (.cells (mgC y) 89) = w1 at *
  have c1 := HB1.cv k v hk
  have hc1 : Hid (w1.drew.cell? ⟨B, k, none⟩ = some v) := c1
  have hs1 := b1.size
  refine wp_region_noPanic ?_
  refine wp_region_S (fun w' => w'.cell? ⟨B, k, none⟩ = some v) (fun j => j == 6) (by kernel_rfl) (c1) (fun hHeld => ?_)
  refine wpAnyS_take0 (i := 0) (v := ?_) rfl (by kernel_rfl) (by kernel_rfl) (by kernel_rfl) (by rfl) (fun _ _ _ h => h) (by rfl) ?_ (by assumption) ?_
  rotate_left
  · intro w; go_simp; (try with_reducible rfl)
  (try simp only [Act.put, List.getElem_toArray, List.getElem_cons_zero, List.getElem_cons_succ, List.setIfInBounds_toArray, List.set_cons_zero, List.set_cons_succ])
  refine wpAnyS_take0 (i := 1) (v := ?_) rfl (by kernel_rfl) (by kernel_rfl) (by kernel_rfl) (by rfl) (fun _ _ _ h => h) (by rfl) ?_ (by assumption) ?_
  rotate_left
  · intro w; go_simp; (try with_reducible rfl)
  (try simp only [Act.put, List.getElem_toArray, List.getElem_cons_zero, List.getElem_cons_succ, List.setIfInBounds_toArray, List.set_cons_zero, List.set_cons_succ])
  refine wpAnyS_take0 (i := 2) (v := ?_) rfl (by kernel_rfl) (by kernel_rfl) (by kernel_rfl) (by rfl) (fun _ _ _ h => h) (by rfl) ?_ (by assumption) ?_
  rotate_left
  · intro w; go_simp; (try with_reducible rfl)
  (try simp only [Act.put, List.getElem_toArray, List.getElem_cons_zero, List.getElem_cons_succ, List.setIfInBounds_toArray, List.set_cons_zero, List.set_cons_succ])
  refine wpAnyS_take (i := 3) (v := v) rfl (by kernel_rfl) (by kernel_rfl) (by kernel_rfl) (by rfl) (by kernel_rfl) (fun _ _ _ h => h) (Or.inl ⟨by rfl, fun w hSw => by (try dsimp only at hSw); go_simp⟩) (by assumption) ?_
  (try simp only [Act.put, List.getElem_toArray, List.getElem_cons_zero, List.getElem_cons_succ, List.setIfInBounds_toArray, List.set_cons_zero, List.set_cons_succ])
  refine wpAnyS_one (r := 4) (by kernel_rfl) rfl (by rfl) (by rfl) (fun K hK => ?_)
  (try simp only [List.getElem_toArray, List.getElem_cons_zero, List.getElem_cons_succ])
  refine wp_load_op (k := 0) 89 (mgC y) rfl rfl (show Blk w1.drew w.heap.size 89 (mgC y) from HG1) (by kernel_rfl) (by kernel_rfl) rfl ?_
  refine hK _ _ ?_ (fun hHeld => ?_)
  · exact hc1.out
  clear hK K
  (try simp only [Act.put, List.getElem_toArray, List.getElem_cons_zero, List.getElem_cons_succ, List.setIfInBounds_toArray, List.set_cons_zero, List.set_cons_succ])
  refine wpAnyS_one (r := 5) (by kernel_rfl) rfl (by rfl) (by rfl) (fun K hK => ?_)
  (try simp only [List.getElem_toArray, List.getElem_cons_zero, List.getElem_cons_succ])
  refine slice_mg y rfl rfl (fun w2 HG2 b2 hlt2 => ?_)
  have b2' : Below w1.heap.size w1 w2 := ((Below.refl _ w1).drew).trans b2
  have HB2 := HB1.kept b2'
  have HO2 := HO1.kept b2'
  have HP2 := HG1.kept b2'
  have c2 := HB2.cv k v hk
  have hs2 : w1.heap.size ≤ w2.heap.size := b2'.size
  have E2 := b1.trans (b2'.mono hs1)
  clear b2
  refine hK _ _ ?_ (fun hHeld => ?_)
  · exact c2
  clear hK K
  (try simp only [Act.put, List.getElem_toArray, List.getElem_cons_zero, List.getElem_cons_succ, List.setIfInBounds_toArray, List.set_cons_zero, List.set_cons_succ])
  refine wpAnyS_last (r := 6) (by kernel_rfl) rfl (by rfl) (by rfl) (fun K hK => ?_)
  (try simp only [List.getElem_toArray, List.getElem_cons_zero, List.getElem_cons_succ])
  refine append_mg y rfl rfl rfl HO2 HG2 (by omega) (by omega) (fun v3 w3 HO3 b3 g3 => ?_)
  have HB3 := keep_Mg HO2 g3 HB2 (by decide)
  have K3 : KeepX B [89] w w3 := (KeepX.of E2).trans (KeepX.own HO2.blk (by simp) g3)
  have BB3 : ∀ D, D ≤ base → D ≤ B → Below D w w3 := fun D h1 h2 => (E2.mono (by omega)).trans (b3.mono h1)
  have HP3 : Blk w3 w.heap.size 89 (mgC y) := HP2.grown g3 (own_ne_mg hO HO2 (Nat.le_refl _))
  obtain ⟨a3, c3, hv3, -⟩ := HO3.inL
  subst hv3
  refine hK _ _ ?_
  clear hK K
  (try simp only [Act.put, List.getElem_toArray, List.getElem_cons_zero, List.getElem_cons_succ, List.setIfInBounds_toArray, List.set_cons_zero, List.set_cons_succ])
  refine wpAny_take (i := 7) (v := ?_) rfl (by kernel_rfl) (by kernel_rfl) (by kernel_rfl) (fun _ _ _ h => h) (Or.inl ⟨by rfl, ?_⟩) ?_
  rotate_left
  · intro w; go_simp; (try with_reducible rfl)
  (try simp only [Act.put, List.getElem_toArray, List.getElem_cons_zero, List.getElem_cons_succ, List.setIfInBounds_toArray, List.set_cons_zero, List.set_cons_succ])
  refine wpAny_one (r := 8) (by kernel_rfl) rfl (by rfl) (fun K hK => ?_)
  (try simp only [List.getElem_toArray, List.getElem_cons_zero, List.getElem_cons_succ])
  refine wp_store_op (k := k) 26 (.slice a3 (l ++ [y]).length c3) _ (by rfl) rfl rfl HB3 (by kernel_rfl) hk1.out (by rfl) (HST.out _ rfl) (fun w4 HB4 b4 g4 => ?_)
  have HO4 := HO3.other HB3 (by decide) g4
  have K4 := K3.trans (KeepX.cell g4)
  have BB4 : ∀ D, D ≤ base → D ≤ B → Below D w w4 := fun D h1 h2 => (BB3 D h1 h2).trans (b4.mono h2)
  have HP4 := HP3.grown g4 (by simp; omega)
  refine hK _ _ ?_
  clear hK K
  (try simp only [Act.put, List.getElem_toArray, List.getElem_cons_zero, List.getElem_cons_succ, List.setIfInBounds_toArray, List.set_cons_zero, List.set_cons_succ])
  refine wpAny_done (by kernel_rfl) ?_ _
  refine NoPanic.normal ?_
  have hz4 : w.heap.size ≤ w4.heap.size := (BB4 0 (Nat.zero_le _) (Nat.zero_le _)).size
  go_wp2_with (refine load_blk (k := 0) 89 (mgC y) (by rfl) rfl rfl HP4 (by kernel_rfl) (by kernel_rfl) rfl ?_)
  refine (HM.out _).mono ?_
  rintro e w5 ⟨rfl, b5⟩
  go_wp2
  go_ret
  exact ⟨rfl, _, HB4.kept b5, HO4.kept b5, K4.trans (.of b5), fun D h1 h2 => (BB4 D h1 h2).trans (b5.mono (by omega))⟩

end Go.Proofs.YtocgnbbnaamjjaaGreatDoor

namespace Go.Proofs.YtocgnbbnaamjjaaGreatDoor
open Go.RowKit
attribute [local go_sem ↓] Go.wp_at_zero Go.wp_at_succ
set_option linter.unusedSimpArgs false
set_option linter.unusedVariables false
set_option maxRecDepth 100000

theorem keep_Og {w w' : World} {v : Value} {l : List Og} {base : Nat} (hO : OwnOg w base v l) (hg : w.grownBy w' v.ownBlock) {X : Nat} {T : TypeId} {C : Array Value} (hX : Blk w X T C) (hT : T ≠ 111) : Blk w' X T C :=
  KeepX.own (B := X + 1) (ts := [111]) hO.blk (by simp) hg X T C hX (by omega) (by simpa using hT)

theorem own_ne_og {w w2 : World} {v : Value} {l : List Og} {base q : Nat} (hO : OwnOg w base v l) (h2 : OwnOg w2 base v l) (hq : w.heap.size ≤ q) : some q ≠ v.ownBlock := by
  intro e
  rcases hO.blk with e2 | ⟨g, C, e2, _, hB⟩
  · rw [e2] at e; cases e
  · rw [e2] at e
    cases e
    have := hB.lt
    omega

set_option maxHeartbeats 1600000 in
theorem takeOne_og (B k base : Nat) (y : Og) (hr : rgOg y) (l : List Og) (v : Value) (C : Array Value) (w : World) (hB : Blk w B 29 C) (hk : C[k]? = some v) (hO : OwnOg w base v l) (hlen : l.length ≤ 90000) (hbase : base ≤ w.heap.size) :
    Calls Tryz.prog 62 #[.pointer (some ⟨B, k, none⟩), .agg (ogC y), .func (.func 64) #[] #[]] w fun e w' => e = .returned (.bool (okOg y)) ∧ ∃ v', Blk w' B 29 (C.setIfInBounds k v') ∧ OwnOg w' base v' (l ++ [y]) ∧ KeepX B [111] w w' ∧ (∀ D, D ≤ base → D ≤ B → Below D w w') := by
  have HM := Lib.hid (fun W => isOrg_any y hr W)
  have hkz : k < C.size := by
    rcases Nat.lt_or_ge k C.size with q | q
    · exact q
    · rw [Array.getElem?_eq_none q] at hk; cases hk
  have hlt := hB.lt
  have hst : ∀ v' : Value, v'.cells = #[v'] → (C.toList.take k ++ v'.cells.toList ++ C.toList.drop (k + v'.cells.toList.length)).toArray = C.setIfInBounds k v' := fun v' e => st_cell C _ k v' e hkz rfl
  have HST := Lib.hid hst
  have hk1 : Hid (k + 1 ≤ C.size) := hkz
  clear hst hkz
  have b1 : Below w.heap.size w (w.alloc (.cells (ogC y) 111)) := (Below.refl _ _).alloc (Nat.le_refl _) _
  have HG1 := Blk.new w 111 (ogC y)
  have HB1 := hB.kept b1
  have HO1 := hO.kept b1
  clear hr
  go_enter Tryz.func62, Tryz.ntmps62
  go_upto_region 1 with (fail)
  generalize w.alloc (.cells (ogC y) 111) = w1 at *
  have c1 := HB1.cv k v hk
  have hc1 : Hid (w1.drew.cell? ⟨B, k, none⟩ = some v) := c1
  have hs1 := b1.size
  refine wp_region_noPanic ?_
  refine wp_region_S (fun w' => w'.cell? ⟨B, k, none⟩ = some v) (fun j => j == 6) (by kernel_rfl) (c1) (fun hHeld => ?_)
  refine wpAnyS_take0 (i := 0) (v := ?_) rfl (by kernel_rfl) (by kernel_rfl) (by kernel_rfl) (by rfl) (fun _ _ _ h => h) (by rfl) ?_ (by assumption) ?_
  rotate_left
  · intro w; go_simp; (try with_reducible rfl)
  (try simp only [Act.put, List.getElem_toArray, List.getElem_cons_zero, List.getElem_cons_succ, List.setIfInBounds_toArray, List.set_cons_zero, List.set_cons_succ])
  refine wpAnyS_take0 (i := 1) (v := ?_) rfl (by kernel_rfl) (by kernel_rfl) (by kernel_rfl) (by rfl) (fun _ _ _ h => h) (by rfl) ?_ (by assumption) ?_
  rotate_left
  · intro w; go_simp; (try with_reducible rfl)
  (try simp only [Act.put, List.getElem_toArray, List.getElem_cons_zero, List.getElem_cons_succ, List.setIfInBounds_toArray, List.set_cons_zero, List.set_cons_succ])
  refine wpAnyS_take0 (i := 2) (v := ?_) rfl (by kernel_rfl) (by kernel_rfl) (by kernel_rfl) (by rfl) (fun _ _ _ h => h) (by rfl) ?_ (by assumption) ?_
  rotate_left
  · intro w; go_simp; (try with_reducible rfl)
  (try simp only [Act.put, List.getElem_toArray, List.getElem_cons_zero, List.getElem_cons_succ, List.setIfInBounds_toArray, List.set_cons_zero, List.set_cons_succ])
  refine wpAnyS_take (i := 3) (v := v) rfl (by kernel_rfl) (by kernel_rfl) (by kernel_rfl) (by rfl) (by kernel_rfl) (fun _ _ _ h => h) (Or.inl ⟨by rfl, fun w hSw => by (try dsimp only at hSw); go_simp⟩) (by assumption) ?_
  (try simp only [Act.put, List.getElem_toArray, List.getElem_cons_zero, List.getElem_cons_succ, List.setIfInBounds_toArray, List.set_cons_zero, List.set_cons_succ])
  refine wpAnyS_one (r := 4) (by kernel_rfl) rfl (by rfl) (by rfl) (fun K hK => ?_)
  (try simp only [List.getElem_toArray, List.getElem_cons_zero, List.getElem_cons_succ])
  refine wp_load_op (k := 0) 111 (ogC y) rfl rfl (show Blk w1.drew w.heap.size 111 (ogC y) from HG1) (by kernel_rfl) (by kernel_rfl) rfl ?_
  refine hK _ _ ?_ (fun hHeld => ?_)
  · exact hc1.out
  clear hK K
  (try simp only [Act.put, List.getElem_toArray, List.getElem_cons_zero, List.getElem_cons_succ, List.setIfInBounds_toArray, List.set_cons_zero, List.set_cons_succ])
  refine wpAnyS_one (r := 5) (by kernel_rfl) rfl (by rfl) (by rfl) (fun K hK => ?_)
  (try simp only [List.getElem_toArray, List.getElem_cons_zero, List.getElem_cons_succ])
  refine slice_og y rfl rfl (fun w2 HG2 b2 hlt2 => ?_)
  have b2' : Below w1.heap.size w1 w2 := ((Below.refl _ w1).drew).trans b2
  have HB2 := HB1.kept b2'
  have HO2 := HO1.kept b2'
  have HP2 := HG1.kept b2'
  have c2 := HB2.cv k v hk
  have hs2 : w1.heap.size ≤ w2.heap.size := b2'.size
  have E2 := b1.trans (b2'.mono hs1)
  clear b2
  refine hK _ _ ?_ (fun hHeld => ?_)
  · exact c2
  clear hK K
  (try simp only [Act.put, List.getElem_toArray, List.getElem_cons_zero, List.getElem_cons_succ, List.setIfInBounds_toArray, List.set_cons_zero, List.set_cons_succ])
  refine wpAnyS_last (r := 6) (by kernel_rfl) rfl (by rfl) (by rfl) (fun K hK => ?_)
  (try simp only [List.getElem_toArray, List.getElem_cons_zero, List.getElem_cons_succ])
  refine append_og y rfl rfl rfl HO2 HG2 (by omega) (by omega) (fun v3 w3 HO3 b3 g3 => ?_)
  have HB3 := keep_Og HO2 g3 HB2 (by decide)
  have K3 : KeepX B [111] w w3 := (KeepX.of E2).trans (KeepX.own HO2.blk (by simp) g3)
  have BB3 : ∀ D, D ≤ base → D ≤ B → Below D w w3 := fun D h1 h2 => (E2.mono (by omega)).trans (b3.mono h1)
  have HP3 : Blk w3 w.heap.size 111 (ogC y) := HP2.grown g3 (own_ne_og hO HO2 (Nat.le_refl _))
  obtain ⟨a3, c3, hv3, -⟩ := HO3.inL
  subst hv3
  refine hK _ _ ?_
  clear hK K
  (try simp only [Act.put, List.getElem_toArray, List.getElem_cons_zero, List.getElem_cons_succ, List.setIfInBounds_toArray, List.set_cons_zero, List.set_cons_succ])
  refine wpAny_take (i := 7) (v := ?_) rfl (by kernel_rfl) (by kernel_rfl) (by kernel_rfl) (fun _ _ _ h => h) (Or.inl ⟨by rfl, ?_⟩) ?_
  rotate_left
  · intro w; go_simp; (try with_reducible rfl)
  (try simp only [Act.put, List.getElem_toArray, List.getElem_cons_zero, List.getElem_cons_succ, List.setIfInBounds_toArray, List.set_cons_zero, List.set_cons_succ])
  refine wpAny_one (r := 8) (by kernel_rfl) rfl (by rfl) (fun K hK => ?_)
  (try simp only [List.getElem_toArray, List.getElem_cons_zero, List.getElem_cons_succ])
  refine wp_store_op (k := k) 27 (.slice a3 (l ++ [y]).length c3) _ (by rfl) rfl rfl HB3 (by kernel_rfl) hk1.out (by rfl) (HST.out _ rfl) (fun w4 HB4 b4 g4 => ?_)
  have HO4 := HO3.other HB3 (by decide) g4
  have K4 := K3.trans (KeepX.cell g4)
  have BB4 : ∀ D, D ≤ base → D ≤ B → Below D w w4 := fun D h1 h2 => (BB3 D h1 h2).trans (b4.mono h2)
  have HP4 := HP3.grown g4 (by simp; omega)
  refine hK _ _ ?_
  clear hK K
  (try simp only [Act.put, List.getElem_toArray, List.getElem_cons_zero, List.getElem_cons_succ, List.setIfInBounds_toArray, List.set_cons_zero, List.set_cons_succ])
  refine wpAny_done (by kernel_rfl) ?_ _
  refine NoPanic.normal ?_
  have hz4 : w.heap.size ≤ w4.heap.size := (BB4 0 (Nat.zero_le _) (Nat.zero_le _)).size
  go_wp2_with (refine load_blk (k := 0) 111 (ogC y) (by rfl) rfl rfl HP4 (by kernel_rfl) (by kernel_rfl) rfl ?_)
  refine (HM.out _).mono ?_
  rintro e w5 ⟨rfl, b5⟩
  go_wp2
  go_ret
  exact ⟨rfl, _, HB4.kept b5, HO4.kept b5, K4.trans (.of b5), fun D h1 h2 => (BB4 D h1 h2).trans (b5.mono (by omega))⟩

end Go.Proofs.YtocgnbbnaamjjaaGreatDoor

