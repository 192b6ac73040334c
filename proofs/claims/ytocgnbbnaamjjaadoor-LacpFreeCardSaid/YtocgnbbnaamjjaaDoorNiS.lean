/- Rows of numbers of one's own. -/
import Derived.Test.YtocgnbbnaamjjaaDoorCells
import Derived.Test.YtocgnbbnaamjjaaDoorStOp
import Derived.Deep.AppendLies
import Derived.Deep.RegionHeld3
import Derived.Great.BuildSlice
namespace Go.Proofs.YtocgnbbnaamjjaaDoor
open Go.RowKit
attribute [local go_sem ↓] Go.wp_at_zero Go.wp_at_succ
set_option linter.unusedSimpArgs false
set_option linter.unusedVariables false
set_option maxRecDepth 100000

def niC (x : Nat) : Array Value := #[.int .i64 (x : Nat)]

def NiAt (w : World) (b o : Nat) (l : List Nat) : Prop := ∀ j (hj : j < l.length), CellsAt w b (o + j * 1) (niC l[j])

def NiIn (w : World) (a : Option Addr) (l : List Nat) : Prop := l = [] ∨ ∃ b o, a = some ⟨b, o, none⟩ ∧ b < w.heap.size ∧ NiAt w b o l

theorem NiAt.below {w w' : World} {b o D : Nat} {l : List Nat} (h : NiAt w b o l) (hb : Below D w w') (hB : b < D) : NiAt w' b o l := fun j hj => (h j hj).below hb hB

theorem NiIn.below {w w' : World} {a : Option Addr} {l : List Nat} (h : NiIn w a l) (hb : Below w.heap.size w w') : NiIn w' a l := by
  rcases h with h | ⟨b, o, h1, h2, h3⟩
  · exact Or.inl h
  · exact Or.inr ⟨b, o, h1, Nat.lt_of_lt_of_le h2 hb.size, fun j hj => (h3 j hj).below hb h2⟩

theorem NiIn.drew {w : World} {a : Option Addr} {l : List Nat} (h : NiIn w a l) : NiIn w.drew a l := h

theorem NiIn.at {w : World} {a : Option Addr} {l : List Nat} (h : NiIn w a l) {k : Nat} (hk : k < l.length) : ∃ b o, a = some ⟨b, o, none⟩ ∧ b < w.heap.size ∧ NiAt w b o l := by
  rcases h with rfl | h
  · simp at hk
  · exact h

/-- A list that lay somewhere ahead lies there still. -/
theorem NiIn.late {w0 w w' : World} {a : Option Addr} {l : List Nat} (h : NiIn w a l) (h0 : NiIn w0 a l) (hb : Below w0.heap.size w w') : NiIn w' a l := by
  rcases h with h | ⟨b, o, e1, e2, e3⟩
  · exact Or.inl h
  · rcases h0 with h0 | ⟨b0, o0, f1, f2, f3⟩
    · exact Or.inl h0
    · rw [e1] at f1
      cases f1
      exact Or.inr ⟨b, o, e1, Nat.lt_of_lt_of_le e2 hb.size, e3.below hb f2⟩

/-- The cells of numbers, one behind the other. -/
def niR (l : List Nat) : List Value := l.flatMap fun v => (niC v).toList

theorem niR_cons (v : Nat) (l : List Nat) : niR (v :: l) = (niC v).toList ++ niR l := by simp [niR]

theorem niR_append (l m : List Nat) : niR (l ++ m) = niR l ++ niR m := by simp [niR]

theorem niR_one (v : Nat) : niR [v] = (niC v).toList := by simp [niR]

theorem niC_len (v : Nat) : (niC v).toList.length = 1 := rfl

theorem niR_len (l : List Nat) : (niR l).length = l.length * 1 := by
  induction l with
  | nil => rfl
  | cons v l ih => rw [niR_cons, List.length_append, ih, niC_len, List.length_cons]; omega

theorem niR_get : ∀ (l : List Nat) (j : Nat) (hj : j < l.length) (k : Nat), k < 1 → (niR l)[j * 1 + k]? = (niC l[j])[k]?
  | [], j, hj, _, _ => by simp at hj
  | v :: l, 0, _, k, hk => by
    rw [niR_cons, List.getElem?_append_left (by rw [niC_len]; omega)]
    simp
  | v :: l, j + 1, hj, k, hk => by
    have ih := niR_get l j (by simpa using hj) k hk
    rw [niR_cons, List.getElem?_append_right (by rw [niC_len]; omega), niC_len, show (j + 1) * 1 + k - 1 = j * 1 + k by omega, ih]
    rfl

theorem niC_cells (v : Nat) : ∀ u ∈ (niC v).toList, u.oneCell' = true := by
  intro u hu
  simp only [niC, List.mem_cons, List.not_mem_nil, or_false] at hu
  rcases hu with rfl <;> rfl

theorem niR_cells (l : List Nat) : ∀ u ∈ niR l, u.oneCell' = true := by
  intro u hu
  unfold niR at hu
  obtain ⟨v, _, hv⟩ := List.mem_flatMap.1 hu
  exact niC_cells v u hv

theorem niAt_news {w : World} {b o : Nat} {l : List Nat} (h : NiAt w b o l) : ∀ (q : Nat) u, (niR l)[q]? = some u → w.cell? ((⟨b, o, none⟩ : Addr).add q) = some u := by
  intro q u hu
  have hq : q < l.length * 1 := by
    rw [← niR_len]
    exact (List.getElem?_eq_some_iff.1 hu).1
  have hj : q / 1 < l.length := by omega
  have e : q = q / 1 * 1 + q % 1 := by omega
  rw [e, niR_get l (q / 1) hj (q % 1) (by omega)] at hu
  have := h (q / 1) hj (q % 1) u hu
  rw [e, Addr.add_lit, ← Nat.add_assoc]
  exact this

theorem ni_own {w : World} {base g cap n : Nat} {T : TypeId} {l : List Nat} (hn : n = l.length) (h : w.ownsRow base T 1 (.slice (some ⟨g, 0, none⟩) n cap) n (niR l)) : NiAt w g 0 l := by
  subst hn
  intro j hj k c hc
  have hk : k < 1 := (Array.getElem?_eq_some_iff.1 hc).1
  have h2 := h.cellAt (j * 1 + k) (by omega)
  rw [niR_get l j hj k hk, hc] at h2
  rw [Nat.zero_add]
  exact h2

/-- A row of numbers of one's own: none, or a block from base on. -/
def OwnNat (w : World) (base : Nat) (v : Value) (l : List Nat) : Prop := (l = [] ∧ v = .slice none 0 0) ∨ (l ≠ [] ∧ ∃ g cap, v = .slice (some ⟨g, 0, none⟩) l.length cap ∧ w.ownsRow base 3 1 v l.length (niR l))

theorem OwnNat.nil (w : World) (base : Nat) : OwnNat w base (.slice none 0 0) [] := Or.inl ⟨rfl, rfl⟩

theorem OwnNat.kept {w w' : World} {base : Nat} {v : Value} {l : List Nat} (h : OwnNat w base v l) (hb : Below w.heap.size w w') : OwnNat w' base v l := by
  rcases h with h | ⟨h1, g, cap, rfl, h2⟩
  · exact Or.inl h
  · exact Or.inr ⟨h1, g, cap, rfl, h2.kept (show w.grownBy w' none from ⟨hb.os, hb.tape, hb.output, hb.size, fun k hk _ => hb.block k hk⟩) (Or.inr (by simp [Value.ownBlock]))⟩

theorem OwnNat.alloc {w : World} {base : Nat} {v : Value} {l : List Nat} (h : OwnNat w base v l) (o : Obj) : OwnNat (w.alloc o) base v l := h.kept ((Below.refl _ _).alloc (Nat.le_refl _) o)

theorem OwnNat.inL {w : World} {base : Nat} {v : Value} {l : List Nat} (h : OwnNat w base v l) : ∃ a c, v = .slice a l.length c ∧ NiIn w a l := by
  rcases h with ⟨rfl, rfl⟩ | ⟨h1, g, cap, rfl, h2⟩
  · exact ⟨none, 0, rfl, Or.inl rfl⟩
  · exact ⟨some ⟨g, 0, none⟩, cap, rfl, Or.inr ⟨g, 0, rfl, (h2.lt g rfl).2, ni_own rfl h2⟩⟩

theorem niR_snoc (l : List Nat) (x : Nat) : niR (l ++ [x]) = niR l ++ (niC x).toList := by rw [niR_append, niR_one]

/-- Another block is written. -/
theorem OwnNat.grown {w w' : World} {base : Nat} {v : Value} {l : List Nat} {row : Option Nat} (h : OwnNat w base v l) (hg : w.grownBy w' row) (hr : ∀ g, row = some g → g < base) : OwnNat w' base v l := by
  rcases h with h | ⟨h1, g, cap, rfl, h2⟩
  · exact Or.inl h
  · refine Or.inr ⟨h1, g, cap, rfl, h2.kept hg ?_⟩
    right
    intro e
    have h3 := (h2.lt g rfl).1
    have := hr g (by rw [← e]; simp [Value.ownBlock])
    omega

theorem OwnNat.mono {w : World} {base B : Nat} {v : Value} {l : List Nat} (h : OwnNat w base v l) (hB : B ≤ base) : OwnNat w B v l := by
  rcases h with h | ⟨h1, g, cap, rfl, h2, h3⟩
  · exact Or.inl h
  · refine Or.inr ⟨h1, g, cap, rfl, h2, ?_⟩
    rcases h3 with h3 | ⟨g', cap', cur, e1, e2, e3⟩
    · exact Or.inl h3
    · exact Or.inr ⟨g', cap', cur, e1, Nat.le_trans hB e2, e3⟩

/-- Its block. -/
theorem OwnNat.blk {w : World} {base : Nat} {v : Value} {l : List Nat} (h : OwnNat w base v l) : v.ownBlock = none ∨ ∃ g C, v.ownBlock = some g ∧ base ≤ g ∧ Blk w g 3 C := by
  rcases h with ⟨rfl, rfl⟩ | ⟨h1, g, cap, rfl, h2⟩
  · exact Or.inl rfl
  · rcases h2.2 with ⟨h3, -⟩ | ⟨g1, cap1, cur1, e1, e2, e3, -⟩
    · cases h3
    · cases e1
      exact Or.inr ⟨g, cur1, rfl, e2, e3⟩

/-- A block of another type is written. -/
theorem OwnNat.other {w w' : World} {base B : Nat} {v : Value} {l : List Nat} {T : TypeId} {C : Array Value} (h : OwnNat w base v l) (hB : Blk w B T C) (hT : T ≠ 3) (hg : w.grownBy w' (some B)) : OwnNat w' base v l := by
  have hb := h.blk
  rcases h with h | ⟨h1, g, cap, rfl, h2⟩
  · exact Or.inl h
  · refine Or.inr ⟨h1, g, cap, rfl, h2.kept hg ?_⟩
    right
    intro e
    rcases hb with hb | ⟨g1, C1, e1, e2, e3⟩
    · rw [hb] at e; cases e
    · rw [e1] at e
      cases e
      have h3 : w.heap[B]? = some (.cells C T (0, 0)) := hB
      have h4 : w.heap[B]? = some (.cells C1 3 (0, 0)) := e3
      rw [h3] at h4
      injection h4 with h4
      injection h4 with _ h5
      exact hT h5

theorem Tryd.niParts : (Tryd.prog.info? 3).map (fun i => (i.zero, i.size, i.bytes)) = some (some (.int .i64 0), 1, 8) := by kernel_rfl

theorem fill_ni (v : Nat) : Instr.fill (fun i => some (i * 1, 1)) ((Array.range (1 * 1)).map ((Value.int .i64 0).cells[· % (Value.int .i64 0).cells.size]!)) [(0, .int .i64 (v : Nat))] = some (niC v) := by kernel_rfl

/-- One comes behind. -/
theorem append_ni {o : Oper} {a : Act} {w : World} {K : Act → World → Prop} {Q : Exit → Act → World → Prop} {s x : Operand} {base G : Nat} {v : Value} {l : List Nat} (y : Nat)
    (ho : o.op = .call { callee := .builtin .append, args := #[s, x], argTypes := #[48, 48] }) (hs : a.eval s = v) (hx : a.eval x = .slice (some ⟨G, 0, none⟩) 1 1)
    (hO : OwnNat w base v l) (hG : Blk w G 3 (niC y)) (hlen : l.length ≤ 100000) (hbase : base ≤ w.heap.size)
    (h : ∀ v' w', OwnNat w' base v' (l ++ [y]) → Below base w w' → w.grownBy w' v.ownBlock → K (a.put o.dst v') w') : Oper.wp Tryd.prog o a w K Q := by
  obtain ⟨i0, hi, hz0, hz1, hz2⟩ := info_parts Tryd.niParts
  have hnews : ∀ (j : Nat) u, (niC y).toList[j]? = some u → w.cell? ((⟨G, 0, none⟩ : Addr).add j) = some u := fun j u hu => by
    rw [Addr.add_lit, Nat.zero_add]
    exact hG.cv j u (by simpa using hu)
  rcases hO with ⟨rfl, rfl⟩ | ⟨hne, g, cap, rfl, hown⟩
  · refine wp_append_lies w s x _ ho base 3 i0 (.int .i64 0) 1 8 Tryd.underlying48 hi hz0 hz1 hz2 rfl (by decide) (.slice none 0 0) 0 [] hs (World.ownsRow_nil w base _ 1) ⟨G, 0, none⟩ 1 1 (niC y).toList hx rfl hnews (niC_cells y) (by decide) (by unfold maxLen; omega) (by decide) hbase _ rfl ?_
    intro g cap w' hown hgrow hat hlt
    refine h _ _ (Or.inr ⟨by simp, g, cap, rfl, ?_⟩) ((Below.refl base w).grown hgrow hbase (fun q hq => by simp [Value.ownBlock] at hq)) hgrow
    rw [List.nil_append, niR_one]
    exact hown
  · have hown' := hown
    refine wp_append_lies w s x _ ho base 3 i0 (.int .i64 0) 1 8 Tryd.underlying48 hi hz0 hz1 hz2 rfl (by decide) (.slice (some ⟨g, 0, none⟩) l.length cap) l.length (niR l) hs hown ⟨G, 0, none⟩ 1 1 (niC y).toList hx rfl hnews (niC_cells y) (by decide) (by unfold maxLen; omega) (by omega) hbase _ rfl ?_
    intro g' cap' w' hown2 hgrow hat hlt
    obtain ⟨cur, hB, hge⟩ : ∃ cur, Blk w g 3 cur ∧ base ≤ g := by
      rcases hown'.2 with ⟨h1, -⟩ | ⟨g1, cap1, cur1, e1, e2, e3, -⟩
      · cases h1
      · cases e1
        exact ⟨cur1, e3, e2⟩
    refine h _ _ (Or.inr ⟨by simp, g', cap', by rw [List.length_append]; rfl, ?_⟩) ((Below.refl base w).grown hgrow hbase (fun q hq => by cases hq; exact hge)) hgrow
    rw [niR_snoc, List.length_append]
    exact hown2

/-- Of one alone. -/
theorem slice_ni {o : Oper} {a : Act} {w : World} {K : Act → World → Prop} {Q : Exit → Act → World → Prop} {x : Operand} (y : Nat) (ho : o.op = .buildSlice 48 1 #[(0, x)]) (hx : a.eval x = .int .i64 (y : Nat))
    (h : ∀ w1, Blk w1 w.heap.size 3 (niC y) → Below w.heap.size w w1 → w.heap.size < w1.heap.size → K (a.put o.dst (.slice (some ⟨w.heap.size, 0, none⟩) 1 1)) w1) : Oper.wp Tryd.prog o a w K Q := by
  obtain ⟨i0, hi, hz0, hz1, hz2⟩ := info_parts Tryd.niParts
  refine wp_buildSlice 48 3 1 _ ho (niC y) i0 (.int .i64 0) Tryd.underlying48 hi hz0 (by rw [hz1]; decide) (by rw [hz1]; decide) (by rw [hz1]; simp only [List.map_toArray, List.map_cons, List.map_nil, hx]; exact fill_ni y) (h _ (Blk.new w _ _) ((Below.refl _ _).alloc (Nat.le_refl _) _) (Blk.new w _ _).lt)

theorem sliceL_ni {ops : Array Oper} {rest : List Oper} {o : Oper} {a : Act} {w : World} {Q : Exit → Act → World → Prop} {x : Operand} (y : Nat) (hg : o.guard = none) (ho : o.op = .buildSlice 48 1 #[(0, x)]) (hx : a.eval x = .int .i64 (y : Nat))
    (h : ∀ w1, Blk w1 w.heap.size 3 (niC y) → Below w.heap.size w w1 → w.heap.size < w1.heap.size → wpList Tryd.prog ops Q rest (a.put o.dst (.slice (some ⟨w.heap.size, 0, none⟩) 1 1)) w1) : wpList Tryd.prog ops Q (o :: rest) a w :=
  wpList_plain hg fun _ hK => slice_ni y ho hx fun w1 hB hb hs => hK _ _ (h w1 hB hb hs)

theorem appendL_ni {ops : Array Oper} {rest : List Oper} {o : Oper} {a : Act} {w : World} {Q : Exit → Act → World → Prop} {s x : Operand} {base G : Nat} {v : Value} {l : List Nat} (y : Nat) (hg : o.guard = none)
    (ho : o.op = .call { callee := .builtin .append, args := #[s, x], argTypes := #[48, 48] }) (hs : a.eval s = v) (hx : a.eval x = .slice (some ⟨G, 0, none⟩) 1 1)
    (hO : OwnNat w base v l) (hG : Blk w G 3 (niC y)) (hlen : l.length ≤ 100000) (hbase : base ≤ w.heap.size)
    (h : ∀ v' w', OwnNat w' base v' (l ++ [y]) → Below base w w' → w.grownBy w' v.ownBlock → wpList Tryd.prog ops Q rest (a.put o.dst v') w') : wpList Tryd.prog ops Q (o :: rest) a w :=
  wpList_plain hg fun _ hK => append_ni y ho hs hx hO hG hlen hbase fun v' w' h1 h2 h3 => hK _ _ (h v' w' h1 h2 h3)

end Go.Proofs.YtocgnbbnaamjjaaDoor
