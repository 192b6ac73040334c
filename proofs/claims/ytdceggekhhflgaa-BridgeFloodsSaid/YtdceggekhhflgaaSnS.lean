/- Frames that are sent, as values: cells, rows of one's own. -/
import Derived.Test.YtdceggekhhflgaaFr
import Derived.Test.YtdceggekhhflgaaFrArg
import Derived.Test.YtdceggekhhflgaaCells
import Derived.Test.YtdceggekhhflgaaStOp
import Derived.Deep.AppendLies
import Derived.Deep.RegionHeld3
import Derived.Great.BuildSlice
namespace Go.Proofs.Ytdceggekhhflgaa
open Go.RowKit
attribute [local go_sem ↓] Go.wp_at_zero Go.wp_at_succ
set_option linter.unusedSimpArgs false
set_option linter.unusedVariables false
set_option maxRecDepth 100000

/-- A frame that is sent, and its port. -/
structure SnH where
  p : Int
  f : Fr

def zFr : Fr := ⟨fun _ => 0, fun _ => 0, none, [], 0, 0, 0, 0, 0, 0, 0, 0, ⟨#[]⟩⟩

instance : Inhabited SnH := ⟨⟨0, zFr⟩⟩

def zSnH : SnH := ⟨0, zFr⟩

def snC (h : SnH) : Array Value := #[.int .i64 h.p, .int .u8 (h.f.d 0), .int .u8 (h.f.d 1), .int .u8 (h.f.d 2), .int .u8 (h.f.d 3), .int .u8 (h.f.d 4), .int .u8 (h.f.d 5), .int .u8 (h.f.s 0), .int .u8 (h.f.s 1), .int .u8 (h.f.s 2), .int .u8 (h.f.s 3), .int .u8 (h.f.s 4), .int .u8 (h.f.s 5), .slice h.f.ta h.f.tl.length h.f.tc, .int .i64 h.f.k, .int .i64 h.f.t, .int .i64 h.f.da, .int .i64 h.f.sa, .int .i64 h.f.ct, .int .i64 h.f.ou, .int .i64 h.f.pi, .string h.f.bo]

def SnAt (w : World) (b o : Nat) (l : List SnH) : Prop := ∀ j (hj : j < l.length), CellsAt w b (o + j * 22) (snC l[j])

def SnIn (w : World) (a : Option Addr) (l : List SnH) : Prop := l = [] ∨ ∃ b o, a = some ⟨b, o, none⟩ ∧ b < w.heap.size ∧ SnAt w b o l

theorem SnAt.below {w w' : World} {b o D : Nat} {l : List SnH} (h : SnAt w b o l) (hb : Below D w w') (hB : b < D) : SnAt w' b o l := fun j hj => (h j hj).below hb hB

theorem SnIn.below {w w' : World} {a : Option Addr} {l : List SnH} (h : SnIn w a l) (hb : Below w.heap.size w w') : SnIn w' a l := by
  rcases h with h | ⟨b, o, h1, h2, h3⟩
  · exact Or.inl h
  · exact Or.inr ⟨b, o, h1, Nat.lt_of_lt_of_le h2 hb.size, fun j hj => (h3 j hj).below hb h2⟩

theorem SnIn.drew {w : World} {a : Option Addr} {l : List SnH} (h : SnIn w a l) : SnIn w.drew a l := h

theorem SnIn.at {w : World} {a : Option Addr} {l : List SnH} (h : SnIn w a l) {k : Nat} (hk : k < l.length) : ∃ b o, a = some ⟨b, o, none⟩ ∧ b < w.heap.size ∧ SnAt w b o l := by
  rcases h with rfl | h
  · simp at hk
  · exact h

/-- A list that lay somewhere ahead lies there still. -/
theorem SnIn.late {w0 w w' : World} {a : Option Addr} {l : List SnH} (h : SnIn w a l) (h0 : SnIn w0 a l) (hb : Below w0.heap.size w w') : SnIn w' a l := by
  rcases h with h | ⟨b, o, e1, e2, e3⟩
  · exact Or.inl h
  · rcases h0 with h0 | ⟨b0, o0, f1, f2, f3⟩
    · exact Or.inl h0
    · rw [e1] at f1
      cases f1
      exact Or.inr ⟨b, o, e1, Nat.lt_of_lt_of_le e2 hb.size, e3.below hb f2⟩

theorem Try.snZero : (Try.prog.info? 48).map (·.zero) = some (some (.agg (snC zSnH))) := by kernel_rfl

/-- The cells of frames, one behind the other. -/
def snR (l : List SnH) : List Value := l.flatMap fun v => (snC v).toList

theorem snR_cons (v : SnH) (l : List SnH) : snR (v :: l) = (snC v).toList ++ snR l := by simp [snR]

theorem snR_append (l m : List SnH) : snR (l ++ m) = snR l ++ snR m := by simp [snR]

theorem snR_one (v : SnH) : snR [v] = (snC v).toList := by simp [snR]

theorem snC_len (v : SnH) : (snC v).toList.length = 22 := rfl

theorem snR_len (l : List SnH) : (snR l).length = l.length * 22 := by
  induction l with
  | nil => rfl
  | cons v l ih => rw [snR_cons, List.length_append, ih, snC_len, List.length_cons]; omega

theorem snR_get : ∀ (l : List SnH) (j : Nat) (hj : j < l.length) (k : Nat), k < 22 → (snR l)[j * 22 + k]? = (snC l[j])[k]?
  | [], j, hj, _, _ => by simp at hj
  | v :: l, 0, _, k, hk => by
    rw [snR_cons, List.getElem?_append_left (by rw [snC_len]; omega)]
    simp
  | v :: l, j + 1, hj, k, hk => by
    have ih := snR_get l j (by simpa using hj) k hk
    rw [snR_cons, List.getElem?_append_right (by rw [snC_len]; omega), snC_len, show (j + 1) * 22 + k - 22 = j * 22 + k by omega, ih]
    rfl

theorem snC_cells (v : SnH) : ∀ u ∈ (snC v).toList, u.oneCell' = true := by
  intro u hu
  simp only [snC, List.mem_cons, List.not_mem_nil, or_false] at hu
  rcases hu with rfl | rfl | rfl | rfl | rfl | rfl | rfl | rfl | rfl | rfl | rfl | rfl | rfl | rfl | rfl | rfl | rfl | rfl | rfl | rfl | rfl | rfl <;> rfl

theorem snR_cells (l : List SnH) : ∀ u ∈ snR l, u.oneCell' = true := by
  intro u hu
  unfold snR at hu
  obtain ⟨v, _, hv⟩ := List.mem_flatMap.1 hu
  exact snC_cells v u hv

theorem snAt_news {w : World} {b o : Nat} {l : List SnH} (h : SnAt w b o l) : ∀ (q : Nat) u, (snR l)[q]? = some u → w.cell? ((⟨b, o, none⟩ : Addr).add q) = some u := by
  intro q u hu
  have hq : q < l.length * 22 := by
    rw [← snR_len]
    exact (List.getElem?_eq_some_iff.1 hu).1
  have hj : q / 22 < l.length := by omega
  have e : q = q / 22 * 22 + q % 22 := by omega
  rw [e, snR_get l (q / 22) hj (q % 22) (by omega)] at hu
  have := h (q / 22) hj (q % 22) u hu
  rw [e, Addr.add_lit, ← Nat.add_assoc]
  exact this

theorem sn_own {w : World} {base g cap n : Nat} {T : TypeId} {l : List SnH} (hn : n = l.length) (h : w.ownsRow base T 22 (.slice (some ⟨g, 0, none⟩) n cap) n (snR l)) : SnAt w g 0 l := by
  subst hn
  intro j hj k c hc
  have hk : k < 22 := (Array.getElem?_eq_some_iff.1 hc).1
  have h2 := h.cellAt (j * 22 + k) (by omega)
  rw [snR_get l j hj k hk, hc] at h2
  rw [Nat.zero_add]
  exact h2

/-- A row of frames of one's own: none, or a block from base on. -/
def OwnSnH (w : World) (base : Nat) (v : Value) (l : List SnH) : Prop := (l = [] ∧ v = .slice none 0 0) ∨ (l ≠ [] ∧ ∃ g cap, v = .slice (some ⟨g, 0, none⟩) l.length cap ∧ w.ownsRow base 48 22 v l.length (snR l))

theorem OwnSnH.nil (w : World) (base : Nat) : OwnSnH w base (.slice none 0 0) [] := Or.inl ⟨rfl, rfl⟩

theorem OwnSnH.kept {w w' : World} {base : Nat} {v : Value} {l : List SnH} (h : OwnSnH w base v l) (hb : Below w.heap.size w w') : OwnSnH w' base v l := by
  rcases h with h | ⟨h1, g, cap, rfl, h2⟩
  · exact Or.inl h
  · exact Or.inr ⟨h1, g, cap, rfl, h2.kept (show w.grownBy w' none from ⟨hb.os, hb.tape, hb.output, hb.size, fun k hk _ => hb.block k hk⟩) (Or.inr (by simp [Value.ownBlock]))⟩

theorem OwnSnH.alloc {w : World} {base : Nat} {v : Value} {l : List SnH} (h : OwnSnH w base v l) (o : Obj) : OwnSnH (w.alloc o) base v l := h.kept ((Below.refl _ _).alloc (Nat.le_refl _) o)

theorem OwnSnH.inL {w : World} {base : Nat} {v : Value} {l : List SnH} (h : OwnSnH w base v l) : ∃ a c, v = .slice a l.length c ∧ SnIn w a l := by
  rcases h with ⟨rfl, rfl⟩ | ⟨h1, g, cap, rfl, h2⟩
  · exact ⟨none, 0, rfl, Or.inl rfl⟩
  · exact ⟨some ⟨g, 0, none⟩, cap, rfl, Or.inr ⟨g, 0, rfl, (h2.lt g rfl).2, sn_own rfl h2⟩⟩

theorem snR_snoc (l : List SnH) (x : SnH) : snR (l ++ [x]) = snR l ++ (snC x).toList := by rw [snR_append, snR_one]

/-- Another block is written. -/
theorem OwnSnH.grown {w w' : World} {base : Nat} {v : Value} {l : List SnH} {row : Option Nat} (h : OwnSnH w base v l) (hg : w.grownBy w' row) (hr : ∀ g, row = some g → g < base) : OwnSnH w' base v l := by
  rcases h with h | ⟨h1, g, cap, rfl, h2⟩
  · exact Or.inl h
  · refine Or.inr ⟨h1, g, cap, rfl, h2.kept hg ?_⟩
    right
    intro e
    have h3 := (h2.lt g rfl).1
    have := hr g (by rw [← e]; simp [Value.ownBlock])
    omega

theorem OwnSnH.mono {w : World} {base B : Nat} {v : Value} {l : List SnH} (h : OwnSnH w base v l) (hB : B ≤ base) : OwnSnH w B v l := by
  rcases h with h | ⟨h1, g, cap, rfl, h2, h3⟩
  · exact Or.inl h
  · refine Or.inr ⟨h1, g, cap, rfl, h2, ?_⟩
    rcases h3 with h3 | ⟨g', cap', cur, e1, e2, e3⟩
    · exact Or.inl h3
    · exact Or.inr ⟨g', cap', cur, e1, Nat.le_trans hB e2, e3⟩

/-- Its block. -/
theorem OwnSnH.blk {w : World} {base : Nat} {v : Value} {l : List SnH} (h : OwnSnH w base v l) : v.ownBlock = none ∨ ∃ g C, v.ownBlock = some g ∧ base ≤ g ∧ Blk w g 48 C := by
  rcases h with ⟨rfl, rfl⟩ | ⟨h1, g, cap, rfl, h2⟩
  · exact Or.inl rfl
  · rcases h2.2 with ⟨h3, -⟩ | ⟨g1, cap1, cur1, e1, e2, e3, -⟩
    · cases h3
    · cases e1
      exact Or.inr ⟨g, cur1, rfl, e2, e3⟩

/-- A block of another type is written. -/
theorem OwnSnH.other {w w' : World} {base B : Nat} {v : Value} {l : List SnH} {T : TypeId} {C : Array Value} (h : OwnSnH w base v l) (hB : Blk w B T C) (hT : T ≠ 48) (hg : w.grownBy w' (some B)) : OwnSnH w' base v l := by
  have hb := h.blk
  rcases h with h | ⟨h1, g, cap, rfl, h2⟩
  · exact Or.inl h
  · refine Or.inr ⟨h1, g, cap, rfl, h2.kept hg ?_⟩
    right
    intro e
    rcases hb with hb | ⟨g1, C1, e1, e2, e3⟩
    · rw [hb] at e; cases e
    · rw [e1] at e
      cases e
      have h3 : w.heap[B]? = some (.cells C T (0, 0)) := hB
      have h4 : w.heap[B]? = some (.cells C1 48 (0, 0)) := e3
      rw [h3] at h4
      injection h4 with h4
      injection h4 with _ h5
      exact hT h5

theorem Try.snParts : (Try.prog.info? 48).map (fun i => (i.zero, i.size, i.bytes)) = some (some (.agg (snC zSnH)), 22, 120) := by kernel_rfl

theorem fill_sn (v : SnH) : Instr.fill (fun i => some (i * 22, 22)) ((Array.range (1 * 22)).map ((Value.agg (snC zSnH)).cells[· % (Value.agg (snC zSnH)).cells.size]!)) [(0, .agg (snC v))] = some (snC v) := by kernel_rfl

/-- One comes behind. -/
theorem append_sn {o : Oper} {a : Act} {w : World} {K : Act → World → Prop} {Q : Exit → Act → World → Prop} {s x : Operand} {base G : Nat} {v : Value} {l : List SnH} (y : SnH)
    (ho : o.op = .call { callee := .builtin .append, args := #[s, x], argTypes := #[41, 41] }) (hs : a.eval s = v) (hx : a.eval x = .slice (some ⟨G, 0, none⟩) 1 1)
    (hO : OwnSnH w base v l) (hG : Blk w G 48 (snC y)) (hlen : l.length ≤ 100000) (hbase : base ≤ w.heap.size)
    (h : ∀ v' w', OwnSnH w' base v' (l ++ [y]) → Below base w w' → w.grownBy w' v.ownBlock → K (a.put o.dst v') w') : Oper.wp Try.prog o a w K Q := by
  obtain ⟨i0, hi, hz0, hz1, hz2⟩ := info_parts Try.snParts
  have hnews : ∀ (j : Nat) u, (snC y).toList[j]? = some u → w.cell? ((⟨G, 0, none⟩ : Addr).add j) = some u := fun j u hu => by
    rw [Addr.add_lit, Nat.zero_add]
    exact hG.cv j u (by simpa using hu)
  rcases hO with ⟨rfl, rfl⟩ | ⟨hne, g, cap, rfl, hown⟩
  · refine wp_append_lies w s x _ ho base 48 i0 (.agg (snC zSnH)) 22 120 Try.underlying41 hi hz0 hz1 hz2 rfl (by decide) (.slice none 0 0) 0 [] hs (World.ownsRow_nil w base _ 22) ⟨G, 0, none⟩ 1 1 (snC y).toList hx rfl hnews (snC_cells y) (by decide) (by unfold maxLen; omega) (by decide) hbase _ rfl ?_
    intro g cap w' hown hgrow hat hlt
    refine h _ _ (Or.inr ⟨by simp, g, cap, rfl, ?_⟩) ((Below.refl base w).grown hgrow hbase (fun q hq => by simp [Value.ownBlock] at hq)) hgrow
    rw [List.nil_append, snR_one]
    exact hown
  · have hown' := hown
    refine wp_append_lies w s x _ ho base 48 i0 (.agg (snC zSnH)) 22 120 Try.underlying41 hi hz0 hz1 hz2 rfl (by decide) (.slice (some ⟨g, 0, none⟩) l.length cap) l.length (snR l) hs hown ⟨G, 0, none⟩ 1 1 (snC y).toList hx rfl hnews (snC_cells y) (by decide) (by unfold maxLen; omega) (by omega) hbase _ rfl ?_
    intro g' cap' w' hown2 hgrow hat hlt
    obtain ⟨cur, hB, hge⟩ : ∃ cur, Blk w g 48 cur ∧ base ≤ g := by
      rcases hown'.2 with ⟨h1, -⟩ | ⟨g1, cap1, cur1, e1, e2, e3, -⟩
      · cases h1
      · cases e1
        exact ⟨cur1, e3, e2⟩
    refine h _ _ (Or.inr ⟨by simp, g', cap', by rw [List.length_append]; rfl, ?_⟩) ((Below.refl base w).grown hgrow hbase (fun q hq => by cases hq; exact hge)) hgrow
    rw [snR_snoc, List.length_append]
    exact hown2

/-- Of one alone. -/
theorem slice_sn {o : Oper} {a : Act} {w : World} {K : Act → World → Prop} {Q : Exit → Act → World → Prop} {x : Operand} (y : SnH) (ho : o.op = .buildSlice 41 1 #[(0, x)]) (hx : a.eval x = .agg (snC y))
    (h : ∀ w1, Blk w1 w.heap.size 48 (snC y) → Below w.heap.size w w1 → w.heap.size < w1.heap.size → K (a.put o.dst (.slice (some ⟨w.heap.size, 0, none⟩) 1 1)) w1) : Oper.wp Try.prog o a w K Q := by
  obtain ⟨i0, hi, hz0, hz1, hz2⟩ := info_parts Try.snParts
  refine wp_buildSlice 41 48 1 _ ho (snC y) i0 (.agg (snC zSnH)) Try.underlying41 hi hz0 (by rw [hz1]; decide) (by rw [hz1]; decide) (by rw [hz1]; simp only [List.map_toArray, List.map_cons, List.map_nil, hx]; exact fill_sn y) (h _ (Blk.new w _ _) ((Below.refl _ _).alloc (Nat.le_refl _) _) (Blk.new w _ _).lt)

theorem sliceL_sn {ops : Array Oper} {rest : List Oper} {o : Oper} {a : Act} {w : World} {Q : Exit → Act → World → Prop} {x : Operand} (y : SnH) (hg : o.guard = none) (ho : o.op = .buildSlice 41 1 #[(0, x)]) (hx : a.eval x = .agg (snC y))
    (h : ∀ w1, Blk w1 w.heap.size 48 (snC y) → Below w.heap.size w w1 → w.heap.size < w1.heap.size → wpList Try.prog ops Q rest (a.put o.dst (.slice (some ⟨w.heap.size, 0, none⟩) 1 1)) w1) : wpList Try.prog ops Q (o :: rest) a w :=
  wpList_plain hg fun _ hK => slice_sn y ho hx fun w1 hB hb hs => hK _ _ (h w1 hB hb hs)

theorem appendL_sn {ops : Array Oper} {rest : List Oper} {o : Oper} {a : Act} {w : World} {Q : Exit → Act → World → Prop} {s x : Operand} {base G : Nat} {v : Value} {l : List SnH} (y : SnH) (hg : o.guard = none)
    (ho : o.op = .call { callee := .builtin .append, args := #[s, x], argTypes := #[41, 41] }) (hs : a.eval s = v) (hx : a.eval x = .slice (some ⟨G, 0, none⟩) 1 1)
    (hO : OwnSnH w base v l) (hG : Blk w G 48 (snC y)) (hlen : l.length ≤ 100000) (hbase : base ≤ w.heap.size)
    (h : ∀ v' w', OwnSnH w' base v' (l ++ [y]) → Below base w w' → w.grownBy w' v.ownBlock → wpList Try.prog ops Q rest (a.put o.dst v') w') : wpList Try.prog ops Q (o :: rest) a w :=
  wpList_plain hg fun _ hK => append_sn y ho hs hx hO hG hlen hbase fun v' w' h1 h2 h3 => hK _ _ (h v' w' h1 h2 h3)

end Go.Proofs.Ytdceggekhhflgaa
