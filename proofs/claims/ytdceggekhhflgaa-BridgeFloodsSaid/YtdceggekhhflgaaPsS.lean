/- Ports as values: cells, rows of one's own. -/
import Derived.Test.YtdceggekhhflgaaBgM
import Derived.Test.YtdceggekhhflgaaIvS
namespace Go.Proofs.Ytdceggekhhflgaa
open Go.RowKit
attribute [local go_sem ↓] Go.wp_at_zero Go.wp_at_succ
set_option linter.unusedSimpArgs false
set_option linter.unusedVariables false
set_option maxRecDepth 100000

/-- A port, and where its lists lie. -/
structure PsH where
  x : Ps
  ia : Option Addr
  ic : Nat
  ba : Option Addr
  bc : Nat

instance : Inhabited PsH := ⟨⟨zPs, none, 0, none, 0⟩⟩

def zPsH : PsH := ⟨zPs, none, 0, none, 0⟩

def psC (h : PsH) : Array Value := #[.int .i64 h.x.pv, .slice h.ia h.x.inn.length h.ic, .slice h.ba h.x.bare.length h.bc, .int .i64 h.x.st]

/-- Its lists can be read. -/
structure PsOk (w : World) (h : PsH) : Prop where
  i : IvIn w h.ia h.x.inn
  b : IvIn w h.ba h.x.bare
  ic : h.x.inn.length ≤ h.ic
  bc : h.x.bare.length ≤ h.bc
  im : h.ic ≤ maxLen
  bm : h.bc ≤ maxLen

theorem PsOk.below {w w' : World} {h : PsH} (k : PsOk w h) (hb : Below w.heap.size w w') : PsOk w' h := ⟨k.i.below hb, k.b.below hb, k.ic, k.bc, k.im, k.bm⟩

def PsAt (w : World) (b o : Nat) (l : List PsH) : Prop := ∀ j (hj : j < l.length), CellsAt w b (o + j * 4) (psC l[j])

def PsIn (w : World) (a : Option Addr) (l : List PsH) : Prop := l = [] ∨ ∃ b o, a = some ⟨b, o, none⟩ ∧ b < w.heap.size ∧ PsAt w b o l

theorem PsAt.below {w w' : World} {b o D : Nat} {l : List PsH} (h : PsAt w b o l) (hb : Below D w w') (hB : b < D) : PsAt w' b o l := fun j hj => (h j hj).below hb hB

theorem PsIn.below {w w' : World} {a : Option Addr} {l : List PsH} (h : PsIn w a l) (hb : Below w.heap.size w w') : PsIn w' a l := by
  rcases h with h | ⟨b, o, h1, h2, h3⟩
  · exact Or.inl h
  · exact Or.inr ⟨b, o, h1, Nat.lt_of_lt_of_le h2 hb.size, fun j hj => (h3 j hj).below hb h2⟩

theorem PsIn.drew {w : World} {a : Option Addr} {l : List PsH} (h : PsIn w a l) : PsIn w.drew a l := h

theorem PsIn.at {w : World} {a : Option Addr} {l : List PsH} (h : PsIn w a l) {k : Nat} (hk : k < l.length) : ∃ b o, a = some ⟨b, o, none⟩ ∧ b < w.heap.size ∧ PsAt w b o l := by
  rcases h with rfl | h
  · simp at hk
  · exact h

/-- A list that lay somewhere ahead lies there still. -/
theorem PsIn.late {w0 w w' : World} {a : Option Addr} {l : List PsH} (h : PsIn w a l) (h0 : PsIn w0 a l) (hb : Below w0.heap.size w w') : PsIn w' a l := by
  rcases h with h | ⟨b, o, e1, e2, e3⟩
  · exact Or.inl h
  · rcases h0 with h0 | ⟨b0, o0, f1, f2, f3⟩
    · exact Or.inl h0
    · rw [e1] at f1
      cases f1
      exact Or.inr ⟨b, o, e1, Nat.lt_of_lt_of_le e2 hb.size, e3.below hb f2⟩

theorem Try.psZero : (Try.prog.info? 59).map (·.zero) = some (some (.agg (psC zPsH))) := by kernel_rfl

/-- The cells of ports, one behind the other. -/
def psR (l : List PsH) : List Value := l.flatMap fun v => (psC v).toList

theorem psR_cons (v : PsH) (l : List PsH) : psR (v :: l) = (psC v).toList ++ psR l := by simp [psR]

theorem psR_append (l m : List PsH) : psR (l ++ m) = psR l ++ psR m := by simp [psR]

theorem psR_one (v : PsH) : psR [v] = (psC v).toList := by simp [psR]

theorem psC_len (v : PsH) : (psC v).toList.length = 4 := rfl

theorem psR_len (l : List PsH) : (psR l).length = l.length * 4 := by
  induction l with
  | nil => rfl
  | cons v l ih => rw [psR_cons, List.length_append, ih, psC_len, List.length_cons]; omega

theorem psR_get : ∀ (l : List PsH) (j : Nat) (hj : j < l.length) (k : Nat), k < 4 → (psR l)[j * 4 + k]? = (psC l[j])[k]?
  | [], j, hj, _, _ => by simp at hj
  | v :: l, 0, _, k, hk => by
    rw [psR_cons, List.getElem?_append_left (by rw [psC_len]; omega)]
    simp
  | v :: l, j + 1, hj, k, hk => by
    have ih := psR_get l j (by simpa using hj) k hk
    rw [psR_cons, List.getElem?_append_right (by rw [psC_len]; omega), psC_len, show (j + 1) * 4 + k - 4 = j * 4 + k by omega, ih]
    rfl

theorem psC_cells (v : PsH) : ∀ u ∈ (psC v).toList, u.oneCell' = true := by
  intro u hu
  simp only [psC, List.mem_cons, List.not_mem_nil, or_false] at hu
  rcases hu with rfl | rfl | rfl | rfl <;> rfl

theorem psR_cells (l : List PsH) : ∀ u ∈ psR l, u.oneCell' = true := by
  intro u hu
  unfold psR at hu
  obtain ⟨v, _, hv⟩ := List.mem_flatMap.1 hu
  exact psC_cells v u hv

theorem psAt_news {w : World} {b o : Nat} {l : List PsH} (h : PsAt w b o l) : ∀ (q : Nat) u, (psR l)[q]? = some u → w.cell? ((⟨b, o, none⟩ : Addr).add q) = some u := by
  intro q u hu
  have hq : q < l.length * 4 := by
    rw [← psR_len]
    exact (List.getElem?_eq_some_iff.1 hu).1
  have hj : q / 4 < l.length := by omega
  have e : q = q / 4 * 4 + q % 4 := by omega
  rw [e, psR_get l (q / 4) hj (q % 4) (by omega)] at hu
  have := h (q / 4) hj (q % 4) u hu
  rw [e, Addr.add_lit, ← Nat.add_assoc]
  exact this

theorem ps_own {w : World} {base g cap n : Nat} {T : TypeId} {l : List PsH} (hn : n = l.length) (h : w.ownsRow base T 4 (.slice (some ⟨g, 0, none⟩) n cap) n (psR l)) : PsAt w g 0 l := by
  subst hn
  intro j hj k c hc
  have hk : k < 4 := (Array.getElem?_eq_some_iff.1 hc).1
  have h2 := h.cellAt (j * 4 + k) (by omega)
  rw [psR_get l j hj k hk, hc] at h2
  rw [Nat.zero_add]
  exact h2

/-- A row of ports of one's own: none, or a block from base on. -/
def OwnPsH (w : World) (base : Nat) (v : Value) (l : List PsH) : Prop := (l = [] ∧ v = .slice none 0 0) ∨ (l ≠ [] ∧ ∃ g cap, v = .slice (some ⟨g, 0, none⟩) l.length cap ∧ w.ownsRow base 59 4 v l.length (psR l))

theorem OwnPsH.nil (w : World) (base : Nat) : OwnPsH w base (.slice none 0 0) [] := Or.inl ⟨rfl, rfl⟩

theorem OwnPsH.kept {w w' : World} {base : Nat} {v : Value} {l : List PsH} (h : OwnPsH w base v l) (hb : Below w.heap.size w w') : OwnPsH w' base v l := by
  rcases h with h | ⟨h1, g, cap, rfl, h2⟩
  · exact Or.inl h
  · exact Or.inr ⟨h1, g, cap, rfl, h2.kept (show w.grownBy w' none from ⟨hb.os, hb.tape, hb.output, hb.size, fun k hk _ => hb.block k hk⟩) (Or.inr (by simp [Value.ownBlock]))⟩

theorem OwnPsH.alloc {w : World} {base : Nat} {v : Value} {l : List PsH} (h : OwnPsH w base v l) (o : Obj) : OwnPsH (w.alloc o) base v l := h.kept ((Below.refl _ _).alloc (Nat.le_refl _) o)

theorem OwnPsH.inL {w : World} {base : Nat} {v : Value} {l : List PsH} (h : OwnPsH w base v l) : ∃ a c, v = .slice a l.length c ∧ PsIn w a l := by
  rcases h with ⟨rfl, rfl⟩ | ⟨h1, g, cap, rfl, h2⟩
  · exact ⟨none, 0, rfl, Or.inl rfl⟩
  · exact ⟨some ⟨g, 0, none⟩, cap, rfl, Or.inr ⟨g, 0, rfl, (h2.lt g rfl).2, ps_own rfl h2⟩⟩

theorem psR_snoc (l : List PsH) (x : PsH) : psR (l ++ [x]) = psR l ++ (psC x).toList := by rw [psR_append, psR_one]

/-- Another block is written. -/
theorem OwnPsH.grown {w w' : World} {base : Nat} {v : Value} {l : List PsH} {row : Option Nat} (h : OwnPsH w base v l) (hg : w.grownBy w' row) (hr : ∀ g, row = some g → g < base) : OwnPsH w' base v l := by
  rcases h with h | ⟨h1, g, cap, rfl, h2⟩
  · exact Or.inl h
  · refine Or.inr ⟨h1, g, cap, rfl, h2.kept hg ?_⟩
    right
    intro e
    have h3 := (h2.lt g rfl).1
    have := hr g (by rw [← e]; simp [Value.ownBlock])
    omega

theorem OwnPsH.mono {w : World} {base B : Nat} {v : Value} {l : List PsH} (h : OwnPsH w base v l) (hB : B ≤ base) : OwnPsH w B v l := by
  rcases h with h | ⟨h1, g, cap, rfl, h2, h3⟩
  · exact Or.inl h
  · refine Or.inr ⟨h1, g, cap, rfl, h2, ?_⟩
    rcases h3 with h3 | ⟨g', cap', cur, e1, e2, e3⟩
    · exact Or.inl h3
    · exact Or.inr ⟨g', cap', cur, e1, Nat.le_trans hB e2, e3⟩

/-- Its block. -/
theorem OwnPsH.blk {w : World} {base : Nat} {v : Value} {l : List PsH} (h : OwnPsH w base v l) : v.ownBlock = none ∨ ∃ g C, v.ownBlock = some g ∧ base ≤ g ∧ Blk w g 59 C := by
  rcases h with ⟨rfl, rfl⟩ | ⟨h1, g, cap, rfl, h2⟩
  · exact Or.inl rfl
  · rcases h2.2 with ⟨h3, -⟩ | ⟨g1, cap1, cur1, e1, e2, e3, -⟩
    · cases h3
    · cases e1
      exact Or.inr ⟨g, cur1, rfl, e2, e3⟩

/-- A block of another type is written. -/
theorem OwnPsH.other {w w' : World} {base B : Nat} {v : Value} {l : List PsH} {T : TypeId} {C : Array Value} (h : OwnPsH w base v l) (hB : Blk w B T C) (hT : T ≠ 59) (hg : w.grownBy w' (some B)) : OwnPsH w' base v l := by
  have hb := h.blk
  rcases h with h | ⟨h1, g, cap, rfl, h2⟩
  · exact Or.inl h
  · refine Or.inr ⟨h1, g, cap, rfl, h2.kept hg ?_⟩
    right
    intro e
    rcases hb with hb | ⟨g1, C1, e1, e2, e3⟩
    · rw [hb] at e; cases e
    · rw [e1] at e
      cases e
      have h3 : w.heap[B]? = some (.cells C T (0, 0)) := hB
      have h4 : w.heap[B]? = some (.cells C1 59 (0, 0)) := e3
      rw [h3] at h4
      injection h4 with h4
      injection h4 with _ h5
      exact hT h5

theorem Try.psParts : (Try.prog.info? 59).map (fun i => (i.zero, i.size, i.bytes)) = some (some (.agg (psC zPsH)), 4, 64) := by kernel_rfl

theorem fill_ps (v : PsH) : Instr.fill (fun i => some (i * 4, 4)) ((Array.range (1 * 4)).map ((Value.agg (psC zPsH)).cells[· % (Value.agg (psC zPsH)).cells.size]!)) [(0, .agg (psC v))] = some (psC v) := by kernel_rfl

/-- One comes behind. -/
theorem append_ps {o : Oper} {a : Act} {w : World} {K : Act → World → Prop} {Q : Exit → Act → World → Prop} {s x : Operand} {base G : Nat} {v : Value} {l : List PsH} (y : PsH)
    (ho : o.op = .call { callee := .builtin .append, args := #[s, x], argTypes := #[29, 29] }) (hs : a.eval s = v) (hx : a.eval x = .slice (some ⟨G, 0, none⟩) 1 1)
    (hO : OwnPsH w base v l) (hG : Blk w G 59 (psC y)) (hlen : l.length ≤ 100000) (hbase : base ≤ w.heap.size)
    (h : ∀ v' w', OwnPsH w' base v' (l ++ [y]) → Below base w w' → w.grownBy w' v.ownBlock → K (a.put o.dst v') w') : Oper.wp Try.prog o a w K Q := by
  obtain ⟨i0, hi, hz0, hz1, hz2⟩ := info_parts Try.psParts
  have hnews : ∀ (j : Nat) u, (psC y).toList[j]? = some u → w.cell? ((⟨G, 0, none⟩ : Addr).add j) = some u := fun j u hu => by
    rw [Addr.add_lit, Nat.zero_add]
    exact hG.cv j u (by simpa using hu)
  rcases hO with ⟨rfl, rfl⟩ | ⟨hne, g, cap, rfl, hown⟩
  · refine wp_append_lies w s x _ ho base 59 i0 (.agg (psC zPsH)) 4 64 Try.underlying29 hi hz0 hz1 hz2 rfl (by decide) (.slice none 0 0) 0 [] hs (World.ownsRow_nil w base _ 4) ⟨G, 0, none⟩ 1 1 (psC y).toList hx rfl hnews (psC_cells y) (by decide) (by unfold maxLen; omega) (by decide) hbase _ rfl ?_
    intro g cap w' hown hgrow hat hlt
    refine h _ _ (Or.inr ⟨by simp, g, cap, rfl, ?_⟩) ((Below.refl base w).grown hgrow hbase (fun q hq => by simp [Value.ownBlock] at hq)) hgrow
    rw [List.nil_append, psR_one]
    exact hown
  · have hown' := hown
    refine wp_append_lies w s x _ ho base 59 i0 (.agg (psC zPsH)) 4 64 Try.underlying29 hi hz0 hz1 hz2 rfl (by decide) (.slice (some ⟨g, 0, none⟩) l.length cap) l.length (psR l) hs hown ⟨G, 0, none⟩ 1 1 (psC y).toList hx rfl hnews (psC_cells y) (by decide) (by unfold maxLen; omega) (by omega) hbase _ rfl ?_
    intro g' cap' w' hown2 hgrow hat hlt
    obtain ⟨cur, hB, hge⟩ : ∃ cur, Blk w g 59 cur ∧ base ≤ g := by
      rcases hown'.2 with ⟨h1, -⟩ | ⟨g1, cap1, cur1, e1, e2, e3, -⟩
      · cases h1
      · cases e1
        exact ⟨cur1, e3, e2⟩
    refine h _ _ (Or.inr ⟨by simp, g', cap', by rw [List.length_append]; rfl, ?_⟩) ((Below.refl base w).grown hgrow hbase (fun q hq => by cases hq; exact hge)) hgrow
    rw [psR_snoc, List.length_append]
    exact hown2

/-- Of one alone. -/
theorem slice_ps {o : Oper} {a : Act} {w : World} {K : Act → World → Prop} {Q : Exit → Act → World → Prop} {x : Operand} (y : PsH) (ho : o.op = .buildSlice 29 1 #[(0, x)]) (hx : a.eval x = .agg (psC y))
    (h : ∀ w1, Blk w1 w.heap.size 59 (psC y) → Below w.heap.size w w1 → w.heap.size < w1.heap.size → K (a.put o.dst (.slice (some ⟨w.heap.size, 0, none⟩) 1 1)) w1) : Oper.wp Try.prog o a w K Q := by
  obtain ⟨i0, hi, hz0, hz1, hz2⟩ := info_parts Try.psParts
  refine wp_buildSlice 29 59 1 _ ho (psC y) i0 (.agg (psC zPsH)) Try.underlying29 hi hz0 (by rw [hz1]; decide) (by rw [hz1]; decide) (by rw [hz1]; simp only [List.map_toArray, List.map_cons, List.map_nil, hx]; exact fill_ps y) (h _ (Blk.new w _ _) ((Below.refl _ _).alloc (Nat.le_refl _) _) (Blk.new w _ _).lt)

theorem sliceL_ps {ops : Array Oper} {rest : List Oper} {o : Oper} {a : Act} {w : World} {Q : Exit → Act → World → Prop} {x : Operand} (y : PsH) (hg : o.guard = none) (ho : o.op = .buildSlice 29 1 #[(0, x)]) (hx : a.eval x = .agg (psC y))
    (h : ∀ w1, Blk w1 w.heap.size 59 (psC y) → Below w.heap.size w w1 → w.heap.size < w1.heap.size → wpList Try.prog ops Q rest (a.put o.dst (.slice (some ⟨w.heap.size, 0, none⟩) 1 1)) w1) : wpList Try.prog ops Q (o :: rest) a w :=
  wpList_plain hg fun _ hK => slice_ps y ho hx fun w1 hB hb hs => hK _ _ (h w1 hB hb hs)

theorem appendL_ps {ops : Array Oper} {rest : List Oper} {o : Oper} {a : Act} {w : World} {Q : Exit → Act → World → Prop} {s x : Operand} {base G : Nat} {v : Value} {l : List PsH} (y : PsH) (hg : o.guard = none)
    (ho : o.op = .call { callee := .builtin .append, args := #[s, x], argTypes := #[29, 29] }) (hs : a.eval s = v) (hx : a.eval x = .slice (some ⟨G, 0, none⟩) 1 1)
    (hO : OwnPsH w base v l) (hG : Blk w G 59 (psC y)) (hlen : l.length ≤ 100000) (hbase : base ≤ w.heap.size)
    (h : ∀ v' w', OwnPsH w' base v' (l ++ [y]) → Below base w w' → w.grownBy w' v.ownBlock → wpList Try.prog ops Q rest (a.put o.dst v') w') : wpList Try.prog ops Q (o :: rest) a w :=
  wpList_plain hg fun _ hK => append_ps y ho hs hx hO hG hlen hbase fun v' w' h1 h2 h3 => hK _ _ (h v' w' h1 h2 h3)

end Go.Proofs.Ytdceggekhhflgaa
