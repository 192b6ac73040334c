/- Attributes as values: cells, rows of one's own. -/
import Derived.Test.YtnlphldkdglofaaMvM
import Derived.Test.YtnlphldkdglofaaIvS
import Derived.Test.YtnlphldkdglofaaCells
import Derived.Test.YtnlphldkdglofaaFits
import Derived.Test.YtnlphldkdglofaaStOp
import Derived.Deep.AppendLies
import Derived.Deep.RegionHeld3
import Derived.Great.BuildSlice
namespace Go.Proofs.Ytnlphldkdglofaa
open Go.RowKit
attribute [local go_sem ↓] Go.wp_at_zero Go.wp_at_succ
set_option linter.unusedSimpArgs false
set_option linter.unusedVariables false
set_option maxRecDepth 100000

/-- An attribute, and where its events lie. -/
structure MvH where
  x : Mv
  a : Option Addr
  c : Nat

instance : Inhabited MvH := ⟨⟨default, none, 0⟩⟩

def zMvH : MvH := ⟨zMv, none, 0⟩

def mvC (h : MvH) : Array Value := #[.bool h.x.all, .int .i64 h.x.first, .slice h.a h.x.ev.length h.c]

def MhAt (w : World) (b o : Nat) (l : List MvH) : Prop := ∀ j (hj : j < l.length), CellsAt w b (o + j * 3) (mvC l[j])

def MhIn (w : World) (a : Option Addr) (l : List MvH) : Prop := l = [] ∨ ∃ b o, a = some ⟨b, o, none⟩ ∧ b < w.heap.size ∧ MhAt w b o l

theorem MhAt.below {w w' : World} {b o D : Nat} {l : List MvH} (h : MhAt w b o l) (hb : Below D w w') (hB : b < D) : MhAt w' b o l := fun j hj => (h j hj).below hb hB

theorem MhIn.below {w w' : World} {a : Option Addr} {l : List MvH} (h : MhIn w a l) (hb : Below w.heap.size w w') : MhIn w' a l := by
  rcases h with h | ⟨b, o, h1, h2, h3⟩
  · exact Or.inl h
  · exact Or.inr ⟨b, o, h1, Nat.lt_of_lt_of_le h2 hb.size, fun j hj => (h3 j hj).below hb h2⟩

theorem MhIn.drew {w : World} {a : Option Addr} {l : List MvH} (h : MhIn w a l) : MhIn w.drew a l := h

theorem MhIn.at {w : World} {a : Option Addr} {l : List MvH} (h : MhIn w a l) {k : Nat} (hk : k < l.length) : ∃ b o, a = some ⟨b, o, none⟩ ∧ b < w.heap.size ∧ MhAt w b o l := by
  rcases h with rfl | h
  · simp at hk
  · exact h

/-- A list that lay somewhere ahead lies there still. -/
theorem MhIn.late {w0 w w' : World} {a : Option Addr} {l : List MvH} (h : MhIn w a l) (h0 : MhIn w0 a l) (hb : Below w0.heap.size w w') : MhIn w' a l := by
  rcases h with h | ⟨b, o, e1, e2, e3⟩
  · exact Or.inl h
  · rcases h0 with h0 | ⟨b0, o0, f1, f2, f3⟩
    · exact Or.inl h0
    · rw [e1] at f1
      cases f1
      exact Or.inr ⟨b, o, e1, Nat.lt_of_lt_of_le e2 hb.size, e3.below hb f2⟩

/-- The cells of records, one behind the other. -/
def mvR (l : List MvH) : List Value := l.flatMap fun v => (mvC v).toList

theorem mvR_cons (v : MvH) (l : List MvH) : mvR (v :: l) = (mvC v).toList ++ mvR l := by simp [mvR]

theorem mvR_append (l m : List MvH) : mvR (l ++ m) = mvR l ++ mvR m := by simp [mvR]

theorem mvR_one (v : MvH) : mvR [v] = (mvC v).toList := by simp [mvR]

theorem mvC_len (v : MvH) : (mvC v).toList.length = 3 := rfl

theorem mvR_len (l : List MvH) : (mvR l).length = l.length * 3 := by
  induction l with
  | nil => rfl
  | cons v l ih => rw [mvR_cons, List.length_append, ih, mvC_len, List.length_cons]; omega

theorem mvR_get : ∀ (l : List MvH) (j : Nat) (hj : j < l.length) (k : Nat), k < 3 → (mvR l)[j * 3 + k]? = (mvC l[j])[k]?
  | [], j, hj, _, _ => by simp at hj
  | v :: l, 0, _, k, hk => by
    rw [mvR_cons, List.getElem?_append_left (by rw [mvC_len]; omega)]
    simp
  | v :: l, j + 1, hj, k, hk => by
    have ih := mvR_get l j (by simpa using hj) k hk
    rw [mvR_cons, List.getElem?_append_right (by rw [mvC_len]; omega), mvC_len, show (j + 1) * 3 + k - 3 = j * 3 + k by omega, ih]
    rfl

theorem mvC_cells (v : MvH) : ∀ u ∈ (mvC v).toList, u.oneCell' = true := by
  intro u hu
  simp only [mvC, List.mem_cons, List.not_mem_nil, or_false] at hu
  rcases hu with rfl | rfl | rfl <;> rfl

theorem mvR_cells (l : List MvH) : ∀ u ∈ mvR l, u.oneCell' = true := by
  intro u hu
  unfold mvR at hu
  obtain ⟨v, _, hv⟩ := List.mem_flatMap.1 hu
  exact mvC_cells v u hv

theorem mhAt_news {w : World} {b o : Nat} {l : List MvH} (h : MhAt w b o l) : ∀ (q : Nat) u, (mvR l)[q]? = some u → w.cell? ((⟨b, o, none⟩ : Addr).add q) = some u := by
  intro q u hu
  have hq : q < l.length * 3 := by
    rw [← mvR_len]
    exact (List.getElem?_eq_some_iff.1 hu).1
  have hj : q / 3 < l.length := by omega
  have e : q = q / 3 * 3 + q % 3 := by omega
  rw [e, mvR_get l (q / 3) hj (q % 3) (by omega)] at hu
  have := h (q / 3) hj (q % 3) u hu
  rw [e, Addr.add_lit, ← Nat.add_assoc]
  exact this

theorem mh_own {w : World} {base g cap n : Nat} {T : TypeId} {l : List MvH} (hn : n = l.length) (h : w.ownsRow base T 3 (.slice (some ⟨g, 0, none⟩) n cap) n (mvR l)) : MhAt w g 0 l := by
  subst hn
  intro j hj k c hc
  have hk : k < 3 := (Array.getElem?_eq_some_iff.1 hc).1
  have h2 := h.cellAt (j * 3 + k) (by omega)
  rw [mvR_get l j hj k hk, hc] at h2
  rw [Nat.zero_add]
  exact h2

/-- A row of records of one's own: none, or a block from base on. -/
def OwnMh (w : World) (base : Nat) (v : Value) (l : List MvH) : Prop := (l = [] ∧ v = .slice none 0 0) ∨ (l ≠ [] ∧ ∃ g cap, v = .slice (some ⟨g, 0, none⟩) l.length cap ∧ w.ownsRow base 72 3 v l.length (mvR l))

theorem OwnMh.nil (w : World) (base : Nat) : OwnMh w base (.slice none 0 0) [] := Or.inl ⟨rfl, rfl⟩

theorem OwnMh.kept {w w' : World} {base : Nat} {v : Value} {l : List MvH} (h : OwnMh w base v l) (hb : Below w.heap.size w w') : OwnMh w' base v l := by
  rcases h with h | ⟨h1, g, cap, rfl, h2⟩
  · exact Or.inl h
  · exact Or.inr ⟨h1, g, cap, rfl, h2.kept (show w.grownBy w' none from ⟨hb.os, hb.tape, hb.output, hb.size, fun k hk _ => hb.block k hk⟩) (Or.inr (by simp [Value.ownBlock]))⟩

theorem OwnMh.alloc {w : World} {base : Nat} {v : Value} {l : List MvH} (h : OwnMh w base v l) (o : Obj) : OwnMh (w.alloc o) base v l := h.kept ((Below.refl _ _).alloc (Nat.le_refl _) o)

theorem OwnMh.inL {w : World} {base : Nat} {v : Value} {l : List MvH} (h : OwnMh w base v l) : ∃ a c, v = .slice a l.length c ∧ MhIn w a l := by
  rcases h with ⟨rfl, rfl⟩ | ⟨h1, g, cap, rfl, h2⟩
  · exact ⟨none, 0, rfl, Or.inl rfl⟩
  · exact ⟨some ⟨g, 0, none⟩, cap, rfl, Or.inr ⟨g, 0, rfl, (h2.lt g rfl).2, mh_own rfl h2⟩⟩

theorem mvR_snoc (l : List MvH) (x : MvH) : mvR (l ++ [x]) = mvR l ++ (mvC x).toList := by rw [mvR_append, mvR_one]

/-- Another block is written. -/
theorem OwnMh.grown {w w' : World} {base : Nat} {v : Value} {l : List MvH} {row : Option Nat} (h : OwnMh w base v l) (hg : w.grownBy w' row) (hr : ∀ g, row = some g → g < base) : OwnMh w' base v l := by
  rcases h with h | ⟨h1, g, cap, rfl, h2⟩
  · exact Or.inl h
  · refine Or.inr ⟨h1, g, cap, rfl, h2.kept hg ?_⟩
    right
    intro e
    have h3 := (h2.lt g rfl).1
    have := hr g (by rw [← e]; simp [Value.ownBlock])
    omega

theorem OwnMh.mono {w : World} {base B : Nat} {v : Value} {l : List MvH} (h : OwnMh w base v l) (hB : B ≤ base) : OwnMh w B v l := by
  rcases h with h | ⟨h1, g, cap, rfl, h2, h3⟩
  · exact Or.inl h
  · refine Or.inr ⟨h1, g, cap, rfl, h2, ?_⟩
    rcases h3 with h3 | ⟨g', cap', cur, e1, e2, e3⟩
    · exact Or.inl h3
    · exact Or.inr ⟨g', cap', cur, e1, Nat.le_trans hB e2, e3⟩

/-- Its block. -/
theorem OwnMh.blk {w : World} {base : Nat} {v : Value} {l : List MvH} (h : OwnMh w base v l) : v.ownBlock = none ∨ ∃ g C, v.ownBlock = some g ∧ base ≤ g ∧ Blk w g 72 C := by
  rcases h with ⟨rfl, rfl⟩ | ⟨h1, g, cap, rfl, h2⟩
  · exact Or.inl rfl
  · rcases h2.2 with ⟨h3, -⟩ | ⟨g1, cap1, cur1, e1, e2, e3, -⟩
    · cases h3
    · cases e1
      exact Or.inr ⟨g, cur1, rfl, e2, e3⟩

/-- A block of another type is written. -/
theorem OwnMh.other {w w' : World} {base B : Nat} {v : Value} {l : List MvH} {T : TypeId} {C : Array Value} (h : OwnMh w base v l) (hB : Blk w B T C) (hT : T ≠ 72) (hg : w.grownBy w' (some B)) : OwnMh w' base v l := by
  have hb := h.blk
  rcases h with h | ⟨h1, g, cap, rfl, h2⟩
  · exact Or.inl h
  · refine Or.inr ⟨h1, g, cap, rfl, h2.kept hg ?_⟩
    right
    intro e
    rcases hb with hb | ⟨g1, C1, e1, e2, e3⟩
    · rw [hb] at e; cases e
    · rw [e1] at e
      cases e
      have h3 : w.heap[B]? = some (.cells C T (0, 0)) := hB
      have h4 : w.heap[B]? = some (.cells C1 72 (0, 0)) := e3
      rw [h3] at h4
      injection h4 with h4
      injection h4 with _ h5
      exact hT h5

theorem Try.mhParts : (Try.prog.info? 72).map (fun i => (i.zero, i.size, i.bytes)) = some (some (.agg (mvC zMvH)), 3, 40) := by kernel_rfl

theorem fill_mh (v : MvH) : Instr.fill (fun i => some (i * 3, 3)) ((Array.range (1 * 3)).map ((Value.agg (mvC zMvH)).cells[· % (Value.agg (mvC zMvH)).cells.size]!)) [(0, .agg (mvC v))] = some (mvC v) := by kernel_rfl

/-- One comes behind. -/
theorem append_mh {o : Oper} {a : Act} {w : World} {K : Act → World → Prop} {Q : Exit → Act → World → Prop} {s x : Operand} {base G : Nat} {v : Value} {l : List MvH} (y : MvH)
    (ho : o.op = .call { callee := .builtin .append, args := #[s, x], argTypes := #[59, 59] }) (hs : a.eval s = v) (hx : a.eval x = .slice (some ⟨G, 0, none⟩) 1 1)
    (hO : OwnMh w base v l) (hG : Blk w G 72 (mvC y)) (hlen : l.length ≤ 100000) (hbase : base ≤ w.heap.size)
    (h : ∀ v' w', OwnMh w' base v' (l ++ [y]) → Below base w w' → w.grownBy w' v.ownBlock → K (a.put o.dst v') w') : Oper.wp Try.prog o a w K Q := by
  obtain ⟨i0, hi, hz0, hz1, hz2⟩ := info_parts Try.mhParts
  have hnews : ∀ (j : Nat) u, (mvC y).toList[j]? = some u → w.cell? ((⟨G, 0, none⟩ : Addr).add j) = some u := fun j u hu => by
    rw [Addr.add_lit, Nat.zero_add]
    exact hG.cv j u (by simpa using hu)
  rcases hO with ⟨rfl, rfl⟩ | ⟨hne, g, cap, rfl, hown⟩
  · refine wp_append_lies w s x _ ho base 72 i0 (.agg (mvC zMvH)) 3 40 Try.underlying59 hi hz0 hz1 hz2 rfl (by decide) (.slice none 0 0) 0 [] hs (World.ownsRow_nil w base _ 3) ⟨G, 0, none⟩ 1 1 (mvC y).toList hx rfl hnews (mvC_cells y) (by decide) (by unfold maxLen; omega) (by decide) hbase _ rfl ?_
    intro g cap w' hown hgrow hat hlt
    refine h _ _ (Or.inr ⟨by simp, g, cap, rfl, ?_⟩) ((Below.refl base w).grown hgrow hbase (fun q hq => by simp [Value.ownBlock] at hq)) hgrow
    rw [List.nil_append, mvR_one]
    exact hown
  · have hown' := hown
    refine wp_append_lies w s x _ ho base 72 i0 (.agg (mvC zMvH)) 3 40 Try.underlying59 hi hz0 hz1 hz2 rfl (by decide) (.slice (some ⟨g, 0, none⟩) l.length cap) l.length (mvR l) hs hown ⟨G, 0, none⟩ 1 1 (mvC y).toList hx rfl hnews (mvC_cells y) (by decide) (by unfold maxLen; omega) (by omega) hbase _ rfl ?_
    intro g' cap' w' hown2 hgrow hat hlt
    obtain ⟨cur, hB, hge⟩ : ∃ cur, Blk w g 72 cur ∧ base ≤ g := by
      rcases hown'.2 with ⟨h1, -⟩ | ⟨g1, cap1, cur1, e1, e2, e3, -⟩
      · cases h1
      · cases e1
        exact ⟨cur1, e3, e2⟩
    refine h _ _ (Or.inr ⟨by simp, g', cap', by rw [List.length_append]; rfl, ?_⟩) ((Below.refl base w).grown hgrow hbase (fun q hq => by cases hq; exact hge)) hgrow
    rw [mvR_snoc, List.length_append]
    exact hown2

/-- Of one alone. -/
theorem slice_mh {o : Oper} {a : Act} {w : World} {K : Act → World → Prop} {Q : Exit → Act → World → Prop} {x : Operand} (y : MvH) (ho : o.op = .buildSlice 59 1 #[(0, x)]) (hx : a.eval x = .agg (mvC y))
    (h : ∀ w1, Blk w1 w.heap.size 72 (mvC y) → Below w.heap.size w w1 → w.heap.size < w1.heap.size → K (a.put o.dst (.slice (some ⟨w.heap.size, 0, none⟩) 1 1)) w1) : Oper.wp Try.prog o a w K Q := by
  obtain ⟨i0, hi, hz0, hz1, hz2⟩ := info_parts Try.mhParts
  refine wp_buildSlice 59 72 1 _ ho (mvC y) i0 (.agg (mvC zMvH)) Try.underlying59 hi hz0 (by rw [hz1]; decide) (by rw [hz1]; decide) (by rw [hz1]; simp only [List.map_toArray, List.map_cons, List.map_nil, hx]; exact fill_mh y) (h _ (Blk.new w _ _) ((Below.refl _ _).alloc (Nat.le_refl _) _) (Blk.new w _ _).lt)

theorem sliceL_mh {ops : Array Oper} {rest : List Oper} {o : Oper} {a : Act} {w : World} {Q : Exit → Act → World → Prop} {x : Operand} (y : MvH) (hg : o.guard = none) (ho : o.op = .buildSlice 59 1 #[(0, x)]) (hx : a.eval x = .agg (mvC y))
    (h : ∀ w1, Blk w1 w.heap.size 72 (mvC y) → Below w.heap.size w w1 → w.heap.size < w1.heap.size → wpList Try.prog ops Q rest (a.put o.dst (.slice (some ⟨w.heap.size, 0, none⟩) 1 1)) w1) : wpList Try.prog ops Q (o :: rest) a w :=
  wpList_plain hg fun _ hK => slice_mh y ho hx fun w1 hB hb hs => hK _ _ (h w1 hB hb hs)

theorem appendL_mh {ops : Array Oper} {rest : List Oper} {o : Oper} {a : Act} {w : World} {Q : Exit → Act → World → Prop} {s x : Operand} {base G : Nat} {v : Value} {l : List MvH} (y : MvH) (hg : o.guard = none)
    (ho : o.op = .call { callee := .builtin .append, args := #[s, x], argTypes := #[59, 59] }) (hs : a.eval s = v) (hx : a.eval x = .slice (some ⟨G, 0, none⟩) 1 1)
    (hO : OwnMh w base v l) (hG : Blk w G 72 (mvC y)) (hlen : l.length ≤ 100000) (hbase : base ≤ w.heap.size)
    (h : ∀ v' w', OwnMh w' base v' (l ++ [y]) → Below base w w' → w.grownBy w' v.ownBlock → wpList Try.prog ops Q rest (a.put o.dst v') w') : wpList Try.prog ops Q (o :: rest) a w :=
  wpList_plain hg fun _ hK => append_mh y ho hs hx hO hG hlen hbase fun v' w' h1 h2 h3 => hK _ _ (h v' w' h1 h2 h3)

end Go.Proofs.Ytnlphldkdglofaa
