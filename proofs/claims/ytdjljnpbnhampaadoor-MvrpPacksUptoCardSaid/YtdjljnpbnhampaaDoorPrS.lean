/- VIDs with their events as values: cells, ==, rows of one's own. -/
import Derived.Test.YtdjljnpbnhampaaDoorMvM
import Derived.Test.YtdjljnpbnhampaaDoorCells
import Derived.Test.YtdjljnpbnhampaaDoorFits
import Derived.Test.YtdjljnpbnhampaaDoorStOp
import Derived.Deep.AppendLies
import Derived.Deep.RegionHeld3
import Derived.Great.BuildSlice
namespace Go.Proofs.YtdjljnpbnhampaaDoor
open Go.RowKit
attribute [local go_sem ↓] Go.wp_at_zero Go.wp_at_succ
set_option linter.unusedSimpArgs false
set_option linter.unusedVariables false
set_option maxRecDepth 100000

/-- A VID and its event. -/
structure Pr where
  vid : Int
  ev : Int
deriving DecidableEq

instance : Inhabited Pr := ⟨⟨0, 0⟩⟩

def zPr : Pr := ⟨0, 0⟩

def prC (x : Pr) : Array Value := #[.int .i64 x.vid, .int .i64 x.ev]

def PrAt (w : World) (b o : Nat) (l : List Pr) : Prop := ∀ j (hj : j < l.length), CellsAt w b (o + j * 2) (prC l[j])

def PrIn (w : World) (a : Option Addr) (l : List Pr) : Prop := l = [] ∨ ∃ b o, a = some ⟨b, o, none⟩ ∧ b < w.heap.size ∧ PrAt w b o l

theorem PrAt.below {w w' : World} {b o D : Nat} {l : List Pr} (h : PrAt w b o l) (hb : Below D w w') (hB : b < D) : PrAt w' b o l := fun j hj => (h j hj).below hb hB

theorem PrIn.below {w w' : World} {a : Option Addr} {l : List Pr} (h : PrIn w a l) (hb : Below w.heap.size w w') : PrIn w' a l := by
  rcases h with h | ⟨b, o, h1, h2, h3⟩
  · exact Or.inl h
  · exact Or.inr ⟨b, o, h1, Nat.lt_of_lt_of_le h2 hb.size, fun j hj => (h3 j hj).below hb h2⟩

theorem PrIn.drew {w : World} {a : Option Addr} {l : List Pr} (h : PrIn w a l) : PrIn w.drew a l := h

theorem PrIn.at {w : World} {a : Option Addr} {l : List Pr} (h : PrIn w a l) {k : Nat} (hk : k < l.length) : ∃ b o, a = some ⟨b, o, none⟩ ∧ b < w.heap.size ∧ PrAt w b o l := by
  rcases h with rfl | h
  · simp at hk
  · exact h

/-- A list that lay somewhere ahead lies there still. -/
theorem PrIn.late {w0 w w' : World} {a : Option Addr} {l : List Pr} (h : PrIn w a l) (h0 : PrIn w0 a l) (hb : Below w0.heap.size w w') : PrIn w' a l := by
  rcases h with h | ⟨b, o, e1, e2, e3⟩
  · exact Or.inl h
  · rcases h0 with h0 | ⟨b0, o0, f1, f2, f3⟩
    · exact Or.inl h0
    · rw [e1] at f1
      cases f1
      exact Or.inr ⟨b, o, e1, Nat.lt_of_lt_of_le e2 hb.size, e3.below hb f2⟩

theorem Tryd.prZero : (Tryd.prog.info? 84).map (·.zero) = some (some (.agg (prC zPr))) := by kernel_rfl

def eqPr (a b : Pr) : Bool := (a.vid == b.vid) && (a.ev == b.ev)

theorem run_eql_pr (d : Nat) (a b : Pr) (w : World) : (Op.equalIn (d + 5) 84 (.agg (prC a)) (.agg (prC b))).run Tryd.prog w = .ok (eqPr a b) w := by
  have hs : Tryd.prog.stoodInHeld 84 = false := by kernel_rfl
  have hu : Tryd.prog.underlying 84 = some (.struct (Tryd.prog.fieldsOf 84)) := by kernel_rfl
  have hf : (Tryd.prog.fieldsOf 84).toList.map (fun f => (f.name == "_", f.type, f.offset)) = [(false, 3, 0), (false, 3, 1)] := by kernel_rfl
  rw [run_equalIn_agg w (d + 4) 84 _ _ hu hs]
  obtain ⟨f0, l0, h0, g0, hf⟩ := List.map_eq_cons_iff.1 hf
  obtain ⟨f1, l1, rfl, g1, hf⟩ := List.map_eq_cons_iff.1 hf
  obtain rfl := List.map_eq_nil_iff.1 hf
  rw [h0]
  have e0 := run_equalIn_int (P := Tryd.prog) w (d + 3) 3 .i64 .i64 a.vid b.vid Tryd.underlying3
  have e1 := run_equalIn_int (P := Tryd.prog) w (d + 3) 3 .i64 .i64 a.ev b.ev Tryd.underlying3
  have h := run_eqFields_cons w (d + 4) (prC a) (prC b) f0 _ _ _ _ _ _ _ g0 (run_part_one w _ _ 0 _ (by kernel_rfl) rfl) (run_part_one w _ _ 0 _ (by kernel_rfl) rfl) e0
    (run_eqFields_cons w (d + 4) (prC a) (prC b) f1 _ _ _ _ _ _ _ g1 (run_part_one w _ _ 1 _ (by kernel_rfl) rfl) (run_part_one w _ _ 1 _ (by kernel_rfl) rfl) e1
    (run_eqFields_nil w (d + 4) _ _))
  rw [Bool.and_true] at h
  exact h

theorem eqPr_same (a : Pr) : eqPr a a = true := by simp [eqPr]

theorem pr_same (x : Pr) (W : World) : (Op.equalIn 10000 84 (.agg (prC x)) (.agg (prC x))).run Tryd.prog W = .ok true W := by
  have h := run_eql_pr 9995 x x W
  rw [eqPr_same] at h
  exact h

/-- The cells of records, one behind the other. -/
def prR (l : List Pr) : List Value := l.flatMap fun v => (prC v).toList

theorem prR_cons (v : Pr) (l : List Pr) : prR (v :: l) = (prC v).toList ++ prR l := by simp [prR]

theorem prR_append (l m : List Pr) : prR (l ++ m) = prR l ++ prR m := by simp [prR]

theorem prR_one (v : Pr) : prR [v] = (prC v).toList := by simp [prR]

theorem prC_len (v : Pr) : (prC v).toList.length = 2 := rfl

theorem prR_len (l : List Pr) : (prR l).length = l.length * 2 := by
  induction l with
  | nil => rfl
  | cons v l ih => rw [prR_cons, List.length_append, ih, prC_len, List.length_cons]; omega

theorem prR_get : ∀ (l : List Pr) (j : Nat) (hj : j < l.length) (k : Nat), k < 2 → (prR l)[j * 2 + k]? = (prC l[j])[k]?
  | [], j, hj, _, _ => by simp at hj
  | v :: l, 0, _, k, hk => by
    rw [prR_cons, List.getElem?_append_left (by rw [prC_len]; omega)]
    simp
  | v :: l, j + 1, hj, k, hk => by
    have ih := prR_get l j (by simpa using hj) k hk
    rw [prR_cons, List.getElem?_append_right (by rw [prC_len]; omega), prC_len, show (j + 1) * 2 + k - 2 = j * 2 + k by omega, ih]
    rfl

theorem prC_cells (v : Pr) : ∀ u ∈ (prC v).toList, u.oneCell' = true := by
  intro u hu
  simp only [prC, List.mem_cons, List.not_mem_nil, or_false] at hu
  rcases hu with rfl | rfl <;> rfl

theorem prR_cells (l : List Pr) : ∀ u ∈ prR l, u.oneCell' = true := by
  intro u hu
  unfold prR at hu
  obtain ⟨v, _, hv⟩ := List.mem_flatMap.1 hu
  exact prC_cells v u hv

theorem prAt_news {w : World} {b o : Nat} {l : List Pr} (h : PrAt w b o l) : ∀ (q : Nat) u, (prR l)[q]? = some u → w.cell? ((⟨b, o, none⟩ : Addr).add q) = some u := by
  intro q u hu
  have hq : q < l.length * 2 := by
    rw [← prR_len]
    exact (List.getElem?_eq_some_iff.1 hu).1
  have hj : q / 2 < l.length := by omega
  have e : q = q / 2 * 2 + q % 2 := by omega
  rw [e, prR_get l (q / 2) hj (q % 2) (by omega)] at hu
  have := h (q / 2) hj (q % 2) u hu
  rw [e, Addr.add_lit, ← Nat.add_assoc]
  exact this

theorem pr_own {w : World} {base g cap n : Nat} {T : TypeId} {l : List Pr} (hn : n = l.length) (h : w.ownsRow base T 2 (.slice (some ⟨g, 0, none⟩) n cap) n (prR l)) : PrAt w g 0 l := by
  subst hn
  intro j hj k c hc
  have hk : k < 2 := (Array.getElem?_eq_some_iff.1 hc).1
  have h2 := h.cellAt (j * 2 + k) (by omega)
  rw [prR_get l j hj k hk, hc] at h2
  rw [Nat.zero_add]
  exact h2

/-- A row of records of one's own: none, or a block from base on. -/
def OwnPr (w : World) (base : Nat) (v : Value) (l : List Pr) : Prop := (l = [] ∧ v = .slice none 0 0) ∨ (l ≠ [] ∧ ∃ g cap, v = .slice (some ⟨g, 0, none⟩) l.length cap ∧ w.ownsRow base 84 2 v l.length (prR l))

theorem OwnPr.nil (w : World) (base : Nat) : OwnPr w base (.slice none 0 0) [] := Or.inl ⟨rfl, rfl⟩

theorem OwnPr.kept {w w' : World} {base : Nat} {v : Value} {l : List Pr} (h : OwnPr w base v l) (hb : Below w.heap.size w w') : OwnPr w' base v l := by
  rcases h with h | ⟨h1, g, cap, rfl, h2⟩
  · exact Or.inl h
  · exact Or.inr ⟨h1, g, cap, rfl, h2.kept (show w.grownBy w' none from ⟨hb.os, hb.tape, hb.output, hb.size, fun k hk _ => hb.block k hk⟩) (Or.inr (by simp [Value.ownBlock]))⟩

theorem OwnPr.alloc {w : World} {base : Nat} {v : Value} {l : List Pr} (h : OwnPr w base v l) (o : Obj) : OwnPr (w.alloc o) base v l := h.kept ((Below.refl _ _).alloc (Nat.le_refl _) o)

theorem OwnPr.inL {w : World} {base : Nat} {v : Value} {l : List Pr} (h : OwnPr w base v l) : ∃ a c, v = .slice a l.length c ∧ PrIn w a l := by
  rcases h with ⟨rfl, rfl⟩ | ⟨h1, g, cap, rfl, h2⟩
  · exact ⟨none, 0, rfl, Or.inl rfl⟩
  · exact ⟨some ⟨g, 0, none⟩, cap, rfl, Or.inr ⟨g, 0, rfl, (h2.lt g rfl).2, pr_own rfl h2⟩⟩

theorem prR_snoc (l : List Pr) (x : Pr) : prR (l ++ [x]) = prR l ++ (prC x).toList := by rw [prR_append, prR_one]

/-- Another block is written. -/
theorem OwnPr.grown {w w' : World} {base : Nat} {v : Value} {l : List Pr} {row : Option Nat} (h : OwnPr w base v l) (hg : w.grownBy w' row) (hr : ∀ g, row = some g → g < base) : OwnPr w' base v l := by
  rcases h with h | ⟨h1, g, cap, rfl, h2⟩
  · exact Or.inl h
  · refine Or.inr ⟨h1, g, cap, rfl, h2.kept hg ?_⟩
    right
    intro e
    have h3 := (h2.lt g rfl).1
    have := hr g (by rw [← e]; simp [Value.ownBlock])
    omega

theorem OwnPr.mono {w : World} {base B : Nat} {v : Value} {l : List Pr} (h : OwnPr w base v l) (hB : B ≤ base) : OwnPr w B v l := by
  rcases h with h | ⟨h1, g, cap, rfl, h2, h3⟩
  · exact Or.inl h
  · refine Or.inr ⟨h1, g, cap, rfl, h2, ?_⟩
    rcases h3 with h3 | ⟨g', cap', cur, e1, e2, e3⟩
    · exact Or.inl h3
    · exact Or.inr ⟨g', cap', cur, e1, Nat.le_trans hB e2, e3⟩

/-- Its block. -/
theorem OwnPr.blk {w : World} {base : Nat} {v : Value} {l : List Pr} (h : OwnPr w base v l) : v.ownBlock = none ∨ ∃ g C, v.ownBlock = some g ∧ base ≤ g ∧ Blk w g 84 C := by
  rcases h with ⟨rfl, rfl⟩ | ⟨h1, g, cap, rfl, h2⟩
  · exact Or.inl rfl
  · rcases h2.2 with ⟨h3, -⟩ | ⟨g1, cap1, cur1, e1, e2, e3, -⟩
    · cases h3
    · cases e1
      exact Or.inr ⟨g, cur1, rfl, e2, e3⟩

/-- A block of another type is written. -/
theorem OwnPr.other {w w' : World} {base B : Nat} {v : Value} {l : List Pr} {T : TypeId} {C : Array Value} (h : OwnPr w base v l) (hB : Blk w B T C) (hT : T ≠ 84) (hg : w.grownBy w' (some B)) : OwnPr w' base v l := by
  have hb := h.blk
  rcases h with h | ⟨h1, g, cap, rfl, h2⟩
  · exact Or.inl h
  · refine Or.inr ⟨h1, g, cap, rfl, h2.kept hg ?_⟩
    right
    intro e
    rcases hb with hb | ⟨g1, C1, e1, e2, e3⟩
    · rw [hb] at e; cases e
    · rw [e1] at e
      cases e
      have h3 : w.heap[B]? = some (.cells C T (0, 0)) := hB
      have h4 : w.heap[B]? = some (.cells C1 84 (0, 0)) := e3
      rw [h3] at h4
      injection h4 with h4
      injection h4 with _ h5
      exact hT h5

theorem Tryd.prParts : (Tryd.prog.info? 84).map (fun i => (i.zero, i.size, i.bytes)) = some (some (.agg (prC zPr)), 2, 16) := by kernel_rfl

theorem fill_pr (v : Pr) : Instr.fill (fun i => some (i * 2, 2)) ((Array.range (1 * 2)).map ((Value.agg (prC zPr)).cells[· % (Value.agg (prC zPr)).cells.size]!)) [(0, .agg (prC v))] = some (prC v) := by kernel_rfl

/-- One comes behind. -/
theorem append_pr {o : Oper} {a : Act} {w : World} {K : Act → World → Prop} {Q : Exit → Act → World → Prop} {s x : Operand} {base G : Nat} {v : Value} {l : List Pr} (y : Pr)
    (ho : o.op = .call { callee := .builtin .append, args := #[s, x], argTypes := #[80, 80] }) (hs : a.eval s = v) (hx : a.eval x = .slice (some ⟨G, 0, none⟩) 1 1)
    (hO : OwnPr w base v l) (hG : Blk w G 84 (prC y)) (hlen : l.length ≤ 100000) (hbase : base ≤ w.heap.size)
    (h : ∀ v' w', OwnPr w' base v' (l ++ [y]) → Below base w w' → w.grownBy w' v.ownBlock → K (a.put o.dst v') w') : Oper.wp Tryd.prog o a w K Q := by
  obtain ⟨i0, hi, hz0, hz1, hz2⟩ := info_parts Tryd.prParts
  have hnews : ∀ (j : Nat) u, (prC y).toList[j]? = some u → w.cell? ((⟨G, 0, none⟩ : Addr).add j) = some u := fun j u hu => by
    rw [Addr.add_lit, Nat.zero_add]
    exact hG.cv j u (by simpa using hu)
  rcases hO with ⟨rfl, rfl⟩ | ⟨hne, g, cap, rfl, hown⟩
  · refine wp_append_lies w s x _ ho base 84 i0 (.agg (prC zPr)) 2 16 Tryd.underlying80 hi hz0 hz1 hz2 rfl (by decide) (.slice none 0 0) 0 [] hs (World.ownsRow_nil w base _ 2) ⟨G, 0, none⟩ 1 1 (prC y).toList hx rfl hnews (prC_cells y) (by decide) (by unfold maxLen; omega) (by decide) hbase _ rfl ?_
    intro g cap w' hown hgrow hat hlt
    refine h _ _ (Or.inr ⟨by simp, g, cap, rfl, ?_⟩) ((Below.refl base w).grown hgrow hbase (fun q hq => by simp [Value.ownBlock] at hq)) hgrow
    rw [List.nil_append, prR_one]
    exact hown
  · have hown' := hown
    refine wp_append_lies w s x _ ho base 84 i0 (.agg (prC zPr)) 2 16 Tryd.underlying80 hi hz0 hz1 hz2 rfl (by decide) (.slice (some ⟨g, 0, none⟩) l.length cap) l.length (prR l) hs hown ⟨G, 0, none⟩ 1 1 (prC y).toList hx rfl hnews (prC_cells y) (by decide) (by unfold maxLen; omega) (by omega) hbase _ rfl ?_
    intro g' cap' w' hown2 hgrow hat hlt
    obtain ⟨cur, hB, hge⟩ : ∃ cur, Blk w g 84 cur ∧ base ≤ g := by
      rcases hown'.2 with ⟨h1, -⟩ | ⟨g1, cap1, cur1, e1, e2, e3, -⟩
      · cases h1
      · cases e1
        exact ⟨cur1, e3, e2⟩
    refine h _ _ (Or.inr ⟨by simp, g', cap', by rw [List.length_append]; rfl, ?_⟩) ((Below.refl base w).grown hgrow hbase (fun q hq => by cases hq; exact hge)) hgrow
    rw [prR_snoc, List.length_append]
    exact hown2

/-- Of one alone. -/
theorem slice_pr {o : Oper} {a : Act} {w : World} {K : Act → World → Prop} {Q : Exit → Act → World → Prop} {x : Operand} (y : Pr) (ho : o.op = .buildSlice 80 1 #[(0, x)]) (hx : a.eval x = .agg (prC y))
    (h : ∀ w1, Blk w1 w.heap.size 84 (prC y) → Below w.heap.size w w1 → w.heap.size < w1.heap.size → K (a.put o.dst (.slice (some ⟨w.heap.size, 0, none⟩) 1 1)) w1) : Oper.wp Tryd.prog o a w K Q := by
  obtain ⟨i0, hi, hz0, hz1, hz2⟩ := info_parts Tryd.prParts
  refine wp_buildSlice 80 84 1 _ ho (prC y) i0 (.agg (prC zPr)) Tryd.underlying80 hi hz0 (by rw [hz1]; decide) (by rw [hz1]; decide) (by rw [hz1]; simp only [List.map_toArray, List.map_cons, List.map_nil, hx]; exact fill_pr y) (h _ (Blk.new w _ _) ((Below.refl _ _).alloc (Nat.le_refl _) _) (Blk.new w _ _).lt)

theorem sliceL_pr {ops : Array Oper} {rest : List Oper} {o : Oper} {a : Act} {w : World} {Q : Exit → Act → World → Prop} {x : Operand} (y : Pr) (hg : o.guard = none) (ho : o.op = .buildSlice 80 1 #[(0, x)]) (hx : a.eval x = .agg (prC y))
    (h : ∀ w1, Blk w1 w.heap.size 84 (prC y) → Below w.heap.size w w1 → w.heap.size < w1.heap.size → wpList Tryd.prog ops Q rest (a.put o.dst (.slice (some ⟨w.heap.size, 0, none⟩) 1 1)) w1) : wpList Tryd.prog ops Q (o :: rest) a w :=
  wpList_plain hg fun _ hK => slice_pr y ho hx fun w1 hB hb hs => hK _ _ (h w1 hB hb hs)

theorem appendL_pr {ops : Array Oper} {rest : List Oper} {o : Oper} {a : Act} {w : World} {Q : Exit → Act → World → Prop} {s x : Operand} {base G : Nat} {v : Value} {l : List Pr} (y : Pr) (hg : o.guard = none)
    (ho : o.op = .call { callee := .builtin .append, args := #[s, x], argTypes := #[80, 80] }) (hs : a.eval s = v) (hx : a.eval x = .slice (some ⟨G, 0, none⟩) 1 1)
    (hO : OwnPr w base v l) (hG : Blk w G 84 (prC y)) (hlen : l.length ≤ 100000) (hbase : base ≤ w.heap.size)
    (h : ∀ v' w', OwnPr w' base v' (l ++ [y]) → Below base w w' → w.grownBy w' v.ownBlock → wpList Tryd.prog ops Q rest (a.put o.dst v') w') : wpList Tryd.prog ops Q (o :: rest) a w :=
  wpList_plain hg fun _ hK => append_pr y ho hs hx hO hG hlen hbase fun v' w' h1 h2 h3 => hK _ _ (h v' w' h1 h2 h3)

end Go.Proofs.YtdjljnpbnhampaaDoor
