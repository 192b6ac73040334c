/- Records as values: cells, ==, rows of one's own. -/
import Derived.Test.YticjmjoiggnblaaDoorTlM
import Derived.Test.YticjmjoiggnblaaDoorCells
import Derived.Test.YticjmjoiggnblaaDoorFits
import Derived.Test.YticjmjoiggnblaaDoorStOp
import Derived.Deep.AppendLies
import Derived.Deep.RegionHeld3
import Derived.Great.BuildSlice
namespace Go.Proofs.YticjmjoiggnblaaDoor
open Go.RowKit
attribute [local go_sem ↓] Go.wp_at_zero Go.wp_at_succ
set_option linter.unusedSimpArgs false
set_option linter.unusedVariables false
set_option maxRecDepth 100000

def tlC (x : Tl) : Array Value := #[.int .i64 x.k, .string x.t]
def rgTl (x : Tl) : Prop := i64R x.k ∧ x.t.size ≤ maxLen
def TlAt (w : World) (b o : Nat) (l : List Tl) : Prop := ∀ j (hj : j < l.length), CellsAt w b (o + j * 2) (tlC l[j])
def TlIn (w : World) (a : Option Addr) (l : List Tl) : Prop := l = [] ∨ ∃ b o, a = some ⟨b, o, none⟩ ∧ b < w.heap.size ∧ TlAt w b o l
theorem TlAt.below {w w' : World} {b o D : Nat} {l : List Tl} (h : TlAt w b o l) (hb : Below D w w') (hB : b < D) : TlAt w' b o l := fun j hj => (h j hj).below hb hB
theorem TlIn.below {w w' : World} {a : Option Addr} {l : List Tl} (h : TlIn w a l) (hb : Below w.heap.size w w') : TlIn w' a l := by
  rcases h with h | ⟨b, o, h1, h2, h3⟩
  · exact Or.inl h
  · exact Or.inr ⟨b, o, h1, Nat.lt_of_lt_of_le h2 hb.size, fun j hj => (h3 j hj).below hb h2⟩
theorem TlIn.drew {w : World} {a : Option Addr} {l : List Tl} (h : TlIn w a l) : TlIn w.drew a l := h
theorem TlIn.at {w : World} {a : Option Addr} {l : List Tl} (h : TlIn w a l) {k : Nat} (hk : k < l.length) : ∃ b o, a = some ⟨b, o, none⟩ ∧ b < w.heap.size ∧ TlAt w b o l := by
  rcases h with rfl | h
  · simp at hk
  · exact h
/-- A list that lay somewhere ahead lies there still. -/
theorem TlIn.late {w0 w w' : World} {a : Option Addr} {l : List Tl} (h : TlIn w a l) (h0 : TlIn w0 a l) (hb : Below w0.heap.size w w') : TlIn w' a l := by
  rcases h with h | ⟨b, o, e1, e2, e3⟩
  · exact Or.inl h
  · rcases h0 with h0 | ⟨b0, o0, f1, f2, f3⟩
    · exact Or.inl h0
    · rw [e1] at f1
      cases f1
      exact Or.inr ⟨b, o, e1, Nat.lt_of_lt_of_le e2 hb.size, e3.below hb f2⟩
theorem Tryd.tlZero : (Tryd.prog.info? 24).map (·.zero) = some (some (.agg (tlC zTl))) := by kernel_rfl
def eqTl (a b : Tl) : Bool := (a.k == b.k) && (a.t.toList == b.t.toList)
theorem run_eql_tl (d : Nat) (a b : Tl) (w : World) : (Op.equalIn (d + 5) 24 (.agg (tlC a)) (.agg (tlC b))).run Tryd.prog w = .ok (eqTl a b) w := by
  have hs : Tryd.prog.stoodInHeld 24 = false := by kernel_rfl
  have hu : Tryd.prog.underlying 24 = some (.struct (Tryd.prog.fieldsOf 24)) := by kernel_rfl
  have hf : (Tryd.prog.fieldsOf 24).toList.map (fun f => (f.name == "_", f.type, f.offset)) = [(false, 3, 0), (false, 9, 1)] := by kernel_rfl
  rw [run_equalIn_agg w (d + 4) 24 _ _ hu hs]
  obtain ⟨f0, l0, h0, g0, hf⟩ := List.map_eq_cons_iff.1 hf
  obtain ⟨f1, l1, rfl, g1, hf⟩ := List.map_eq_cons_iff.1 hf
  obtain rfl := List.map_eq_nil_iff.1 hf
  rw [h0]
  have e0 := run_equalIn_int (P := Tryd.prog) w (d + 3) 3 .i64 .i64 a.k b.k Tryd.underlying3
  have e1 := run_equalIn_string (P := Tryd.prog) w (d + 3) 9 a.t b.t Tryd.underlying9
  have h := run_eqFields_cons w (d + 4) (tlC a) (tlC b) f0 _ _ _ _ _ _ _ g0 (run_part_one w _ _ 0 _ (by kernel_rfl) rfl) (run_part_one w _ _ 0 _ (by kernel_rfl) rfl) e0
    (run_eqFields_cons w (d + 4) (tlC a) (tlC b) f1 _ _ _ _ _ _ _ g1 (run_part_one w _ _ 1 _ (by kernel_rfl) rfl) (run_part_one w _ _ 1 _ (by kernel_rfl) rfl) e1
    (run_eqFields_nil w (d + 4) _ _))
  rw [Bool.and_true] at h
  exact h
theorem eqTl_same (a : Tl) : eqTl a a = true := by simp [eqTl]
theorem tl_same (x : Tl) (W : World) : (Op.equalIn 10000 24 (.agg (tlC x)) (.agg (tlC x))).run Tryd.prog W = .ok true W := by
  have h := run_eql_tl 9995 x x W
  rw [eqTl_same] at h
  exact h
/-- The cells of records, one behind the other. -/
def tlR (l : List Tl) : List Value := l.flatMap fun v => (tlC v).toList
theorem tlR_cons (v : Tl) (l : List Tl) : tlR (v :: l) = (tlC v).toList ++ tlR l := by simp [tlR]
theorem tlR_append (l m : List Tl) : tlR (l ++ m) = tlR l ++ tlR m := by simp [tlR]
theorem tlR_one (v : Tl) : tlR [v] = (tlC v).toList := by simp [tlR]
theorem tlC_len (v : Tl) : (tlC v).toList.length = 2 := rfl
theorem tlR_len (l : List Tl) : (tlR l).length = l.length * 2 := by
  induction l with
  | nil => rfl
  | cons v l ih => rw [tlR_cons, List.length_append, ih, tlC_len, List.length_cons]; omega
theorem tlR_get : ∀ (l : List Tl) (j : Nat) (hj : j < l.length) (k : Nat), k < 2 → (tlR l)[j * 2 + k]? = (tlC l[j])[k]?
  | [], j, hj, _, _ => by simp at hj
  | v :: l, 0, _, k, hk => by
    rw [tlR_cons, List.getElem?_append_left (by rw [tlC_len]; omega)]
    simp
  | v :: l, j + 1, hj, k, hk => by
    have ih := tlR_get l j (by simpa using hj) k hk
    rw [tlR_cons, List.getElem?_append_right (by rw [tlC_len]; omega), tlC_len, show (j + 1) * 2 + k - 2 = j * 2 + k by omega, ih]
    rfl
theorem tlC_cells (v : Tl) : ∀ u ∈ (tlC v).toList, u.oneCell' = true := by
  intro u hu
  simp only [tlC, List.mem_cons, List.not_mem_nil, or_false] at hu
  rcases hu with rfl | rfl <;> rfl
theorem tlR_cells (l : List Tl) : ∀ u ∈ tlR l, u.oneCell' = true := by
  intro u hu
  unfold tlR at hu
  obtain ⟨v, _, hv⟩ := List.mem_flatMap.1 hu
  exact tlC_cells v u hv
theorem tlAt_news {w : World} {b o : Nat} {l : List Tl} (h : TlAt w b o l) : ∀ (q : Nat) u, (tlR l)[q]? = some u → w.cell? ((⟨b, o, none⟩ : Addr).add q) = some u := by
  intro q u hu
  have hq : q < l.length * 2 := by
    rw [← tlR_len]
    exact (List.getElem?_eq_some_iff.1 hu).1
  have hj : q / 2 < l.length := by omega
  have e : q = q / 2 * 2 + q % 2 := by omega
  rw [e, tlR_get l (q / 2) hj (q % 2) (by omega)] at hu
  have := h (q / 2) hj (q % 2) u hu
  rw [e, Addr.add_lit, ← Nat.add_assoc]
  exact this
theorem tl_own {w : World} {base g cap n : Nat} {T : TypeId} {l : List Tl} (hn : n = l.length) (h : w.ownsRow base T 2 (.slice (some ⟨g, 0, none⟩) n cap) n (tlR l)) : TlAt w g 0 l := by
  subst hn
  intro j hj k c hc
  have hk : k < 2 := (Array.getElem?_eq_some_iff.1 hc).1
  have h2 := h.cellAt (j * 2 + k) (by omega)
  rw [tlR_get l j hj k hk, hc] at h2
  rw [Nat.zero_add]
  exact h2
/-- A row of records of one's own: none, or a block from base on. -/
def OwnTl (w : World) (base : Nat) (v : Value) (l : List Tl) : Prop := (l = [] ∧ v = .slice none 0 0) ∨ (l ≠ [] ∧ ∃ g cap, v = .slice (some ⟨g, 0, none⟩) l.length cap ∧ w.ownsRow base 24 2 v l.length (tlR l))
theorem OwnTl.nil (w : World) (base : Nat) : OwnTl w base (.slice none 0 0) [] := Or.inl ⟨rfl, rfl⟩
theorem OwnTl.kept {w w' : World} {base : Nat} {v : Value} {l : List Tl} (h : OwnTl w base v l) (hb : Below w.heap.size w w') : OwnTl w' base v l := by
  rcases h with h | ⟨h1, g, cap, rfl, h2⟩
  · exact Or.inl h
  · exact Or.inr ⟨h1, g, cap, rfl, h2.kept (show w.grownBy w' none from ⟨hb.os, hb.tape, hb.output, hb.size, fun k hk _ => hb.block k hk⟩) (Or.inr (by simp [Value.ownBlock]))⟩
theorem OwnTl.alloc {w : World} {base : Nat} {v : Value} {l : List Tl} (h : OwnTl w base v l) (o : Obj) : OwnTl (w.alloc o) base v l := h.kept ((Below.refl _ _).alloc (Nat.le_refl _) o)
theorem OwnTl.inL {w : World} {base : Nat} {v : Value} {l : List Tl} (h : OwnTl w base v l) : ∃ a c, v = .slice a l.length c ∧ TlIn w a l := by
  rcases h with ⟨rfl, rfl⟩ | ⟨h1, g, cap, rfl, h2⟩
  · exact ⟨none, 0, rfl, Or.inl rfl⟩
  · exact ⟨some ⟨g, 0, none⟩, cap, rfl, Or.inr ⟨g, 0, rfl, (h2.lt g rfl).2, tl_own rfl h2⟩⟩
theorem tlR_snoc (l : List Tl) (x : Tl) : tlR (l ++ [x]) = tlR l ++ (tlC x).toList := by rw [tlR_append, tlR_one]
/-- Another block is written. -/
theorem OwnTl.grown {w w' : World} {base : Nat} {v : Value} {l : List Tl} {row : Option Nat} (h : OwnTl w base v l) (hg : w.grownBy w' row) (hr : ∀ g, row = some g → g < base) : OwnTl w' base v l := by
  rcases h with h | ⟨h1, g, cap, rfl, h2⟩
  · exact Or.inl h
  · refine Or.inr ⟨h1, g, cap, rfl, h2.kept hg ?_⟩
    right
    intro e
    have h3 := (h2.lt g rfl).1
    have := hr g (by rw [← e]; simp [Value.ownBlock])
    omega
theorem OwnTl.mono {w : World} {base B : Nat} {v : Value} {l : List Tl} (h : OwnTl w base v l) (hB : B ≤ base) : OwnTl w B v l := by
  rcases h with h | ⟨h1, g, cap, rfl, h2, h3⟩
  · exact Or.inl h
  · refine Or.inr ⟨h1, g, cap, rfl, h2, ?_⟩
    rcases h3 with h3 | ⟨g', cap', cur, e1, e2, e3⟩
    · exact Or.inl h3
    · exact Or.inr ⟨g', cap', cur, e1, Nat.le_trans hB e2, e3⟩
/-- Its block. -/
theorem OwnTl.blk {w : World} {base : Nat} {v : Value} {l : List Tl} (h : OwnTl w base v l) : v.ownBlock = none ∨ ∃ g C, v.ownBlock = some g ∧ base ≤ g ∧ Blk w g 24 C := by
  rcases h with ⟨rfl, rfl⟩ | ⟨h1, g, cap, rfl, h2⟩
  · exact Or.inl rfl
  · rcases h2.2 with ⟨h3, -⟩ | ⟨g1, cap1, cur1, e1, e2, e3, -⟩
    · cases h3
    · cases e1
      exact Or.inr ⟨g, cur1, rfl, e2, e3⟩
/-- A block of another type is written. -/
theorem OwnTl.other {w w' : World} {base B : Nat} {v : Value} {l : List Tl} {T : TypeId} {C : Array Value} (h : OwnTl w base v l) (hB : Blk w B T C) (hT : T ≠ 24) (hg : w.grownBy w' (some B)) : OwnTl w' base v l := by
  have hb := h.blk
  rcases h with h | ⟨h1, g, cap, rfl, h2⟩
  · exact Or.inl h
  · refine Or.inr ⟨h1, g, cap, rfl, h2.kept hg ?_⟩
    right
    intro e
    rcases hb with hb | ⟨g1, C1, e1, e2, e3⟩
    · rw [hb] at e; cases e
    · rw [e1] at e
      cases e
      have h3 : w.heap[B]? = some (.cells C T (0, 0)) := hB
      have h4 : w.heap[B]? = some (.cells C1 24 (0, 0)) := e3
      rw [h3] at h4
      injection h4 with h4
      injection h4 with _ h5
      exact hT h5
theorem Tryd.tlParts : (Tryd.prog.info? 24).map (fun i => (i.zero, i.size, i.bytes)) = some (some (.agg (tlC zTl)), 2, 24) := by kernel_rfl
theorem fill_tl (v : Tl) : Instr.fill (fun i => some (i * 2, 2)) ((Array.range (1 * 2)).map ((Value.agg (tlC zTl)).cells[· % (Value.agg (tlC zTl)).cells.size]!)) [(0, .agg (tlC v))] = some (tlC v) := by kernel_rfl
/-- One comes behind. -/
theorem append_tl {o : Oper} {a : Act} {w : World} {K : Act → World → Prop} {Q : Exit → Act → World → Prop} {s x : Operand} {base G : Nat} {v : Value} {l : List Tl} (y : Tl)
    (ho : o.op = .call { callee := .builtin .append, args := #[s, x], argTypes := #[22, 22] }) (hs : a.eval s = v) (hx : a.eval x = .slice (some ⟨G, 0, none⟩) 1 1)
    (hO : OwnTl w base v l) (hG : Blk w G 24 (tlC y)) (hlen : l.length ≤ 100000) (hbase : base ≤ w.heap.size)
    (h : ∀ v' w', OwnTl w' base v' (l ++ [y]) → Below base w w' → w.grownBy w' v.ownBlock → K (a.put o.dst v') w') : Oper.wp Tryd.prog o a w K Q := by
  obtain ⟨i0, hi, hz0, hz1, hz2⟩ := info_parts Tryd.tlParts
  have hnews : ∀ (j : Nat) u, (tlC y).toList[j]? = some u → w.cell? ((⟨G, 0, none⟩ : Addr).add j) = some u := fun j u hu => by
    rw [Addr.add_lit, Nat.zero_add]
    exact hG.cv j u (by simpa using hu)
  rcases hO with ⟨rfl, rfl⟩ | ⟨hne, g, cap, rfl, hown⟩
  · refine wp_append_lies w s x _ ho base 24 i0 (.agg (tlC zTl)) 2 24 Tryd.underlying22 hi hz0 hz1 hz2 rfl (by decide) (.slice none 0 0) 0 [] hs (World.ownsRow_nil w base _ 2) ⟨G, 0, none⟩ 1 1 (tlC y).toList hx rfl hnews (tlC_cells y) (by decide) (by unfold maxLen; omega) (by decide) hbase _ rfl ?_
    intro g cap w' hown hgrow hat hlt
    refine h _ _ (Or.inr ⟨by simp, g, cap, rfl, ?_⟩) ((Below.refl base w).grown hgrow hbase (fun q hq => by simp [Value.ownBlock] at hq)) hgrow
    rw [List.nil_append, tlR_one]
    exact hown
  · have hown' := hown
    refine wp_append_lies w s x _ ho base 24 i0 (.agg (tlC zTl)) 2 24 Tryd.underlying22 hi hz0 hz1 hz2 rfl (by decide) (.slice (some ⟨g, 0, none⟩) l.length cap) l.length (tlR l) hs hown ⟨G, 0, none⟩ 1 1 (tlC y).toList hx rfl hnews (tlC_cells y) (by decide) (by unfold maxLen; omega) (by omega) hbase _ rfl ?_
    intro g' cap' w' hown2 hgrow hat hlt
    obtain ⟨cur, hB, hge⟩ : ∃ cur, Blk w g 24 cur ∧ base ≤ g := by
      rcases hown'.2 with ⟨h1, -⟩ | ⟨g1, cap1, cur1, e1, e2, e3, -⟩
      · cases h1
      · cases e1
        exact ⟨cur1, e3, e2⟩
    refine h _ _ (Or.inr ⟨by simp, g', cap', by rw [List.length_append]; rfl, ?_⟩) ((Below.refl base w).grown hgrow hbase (fun q hq => by cases hq; exact hge)) hgrow
    rw [tlR_snoc, List.length_append]
    exact hown2
/-- Of one alone. -/
theorem slice_tl {o : Oper} {a : Act} {w : World} {K : Act → World → Prop} {Q : Exit → Act → World → Prop} {x : Operand} (y : Tl) (ho : o.op = .buildSlice 22 1 #[(0, x)]) (hx : a.eval x = .agg (tlC y))
    (h : ∀ w1, Blk w1 w.heap.size 24 (tlC y) → Below w.heap.size w w1 → w.heap.size < w1.heap.size → K (a.put o.dst (.slice (some ⟨w.heap.size, 0, none⟩) 1 1)) w1) : Oper.wp Tryd.prog o a w K Q := by
  obtain ⟨i0, hi, hz0, hz1, hz2⟩ := info_parts Tryd.tlParts
  refine wp_buildSlice 22 24 1 _ ho (tlC y) i0 (.agg (tlC zTl)) Tryd.underlying22 hi hz0 (by rw [hz1]; decide) (by rw [hz1]; decide) (by rw [hz1]; simp only [List.map_toArray, List.map_cons, List.map_nil, hx]; exact fill_tl y) (h _ (Blk.new w _ _) ((Below.refl _ _).alloc (Nat.le_refl _) _) (Blk.new w _ _).lt)
theorem sliceL_tl {ops : Array Oper} {rest : List Oper} {o : Oper} {a : Act} {w : World} {Q : Exit → Act → World → Prop} {x : Operand} (y : Tl) (hg : o.guard = none) (ho : o.op = .buildSlice 22 1 #[(0, x)]) (hx : a.eval x = .agg (tlC y))
    (h : ∀ w1, Blk w1 w.heap.size 24 (tlC y) → Below w.heap.size w w1 → w.heap.size < w1.heap.size → wpList Tryd.prog ops Q rest (a.put o.dst (.slice (some ⟨w.heap.size, 0, none⟩) 1 1)) w1) : wpList Tryd.prog ops Q (o :: rest) a w :=
  wpList_plain hg fun _ hK => slice_tl y ho hx fun w1 hB hb hs => hK _ _ (h w1 hB hb hs)
theorem appendL_tl {ops : Array Oper} {rest : List Oper} {o : Oper} {a : Act} {w : World} {Q : Exit → Act → World → Prop} {s x : Operand} {base G : Nat} {v : Value} {l : List Tl} (y : Tl) (hg : o.guard = none)
    (ho : o.op = .call { callee := .builtin .append, args := #[s, x], argTypes := #[22, 22] }) (hs : a.eval s = v) (hx : a.eval x = .slice (some ⟨G, 0, none⟩) 1 1)
    (hO : OwnTl w base v l) (hG : Blk w G 24 (tlC y)) (hlen : l.length ≤ 100000) (hbase : base ≤ w.heap.size)
    (h : ∀ v' w', OwnTl w' base v' (l ++ [y]) → Below base w w' → w.grownBy w' v.ownBlock → wpList Tryd.prog ops Q rest (a.put o.dst v') w') : wpList Tryd.prog ops Q (o :: rest) a w :=
  wpList_plain hg fun _ hK => append_tl y ho hs hx hO hG hlen hbase fun v' w' h1 h2 h3 => hK _ _ (h v' w' h1 h2 h3)

end Go.Proofs.YticjmjoiggnblaaDoor
