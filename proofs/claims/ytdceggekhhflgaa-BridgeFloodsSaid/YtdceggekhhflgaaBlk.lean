/- Structs and arrays in blocks of their own, whole and in part: made, loaded, stored, held against each other. -/
import Derived.Test.YtdceggekhhflgaaProg
import Derived.WalkKit
import Derived.Below
import Derived.Laws.CopyRow
import Derived.Laws.CopyOwn
import Derived.Laws.Rows
import Derived.Laws.StructEq
import Derived.Deep.WholeRow
import Derived.ChangeKeysEq
import Derived.Lib.Hide
import Derived.OrdersHeld
namespace Go.Proofs.Ytdceggekhhflgaa
open Go.RowKit
set_option linter.unusedVariables false

/-- Block B is of type T, and its cells are C. -/
def Blk (w : World) (B : Nat) (T : TypeId) (C : Array Value) : Prop := w.heap[B]? = some (.cells C T (0, 0))

section
variable {w w' : World} {B D : Nat} {T : TypeId} {C : Array Value}

theorem Blk.c (h : Blk w B T C) (j : Nat) : w.cell? ⟨B, j, none⟩ = C[j]? := by
  have h' : w.heap[B]? = some (.cells C T (0, 0)) := h
  simp [World.cell?, h']

theorem Blk.cv (h : Blk w B T C) (j : Nat) (v : Value) (hv : C[j]? = some v) : w.cell? ⟨B, j, none⟩ = some v := (h.c j).trans hv

theorem Blk.fz (h : Blk w B T C) (j : Nat) : w.frozen? ⟨B, j, none⟩ = false := by
  have h' : w.heap[B]? = some (.cells C T (0, 0)) := h
  simp [World.frozen?, h']

theorem Blk.lt (h : Blk w B T C) : B < w.heap.size := (Array.getElem?_eq_some_iff.1 h).1

theorem Blk.below (h : Blk w B T C) (hb : Below D w w') (hD : B < D) : Blk w' B T C := (hb.block _ hD).trans h

theorem Blk.kept (h : Blk w B T C) (hb : Below w.heap.size w w') : Blk w' B T C := h.below hb h.lt

theorem Blk.drew (h : Blk w B T C) : Blk w.drew B T C := h

theorem Blk.new (w : World) (T : TypeId) (C : Array Value) : Blk (w.alloc (.cells C T)) w.heap.size T C := by
  show (w.heap.push _)[w.heap.size]? = _
  simp

theorem Blk.alloc (h : Blk w B T C) (o : Obj) : Blk (w.alloc o) B T C := by
  show (w.heap.push o)[B]? = _
  rw [Array.getElem?_push_lt h.lt]
  exact (Array.getElem?_eq_getElem h.lt).symm.trans h

/-- Another block is written. -/
theorem Blk.grown {row : Option Nat} (h : Blk w B T C) (hg : w.grownBy w' row) (hne : some B ≠ row) : Blk w' B T C := (hg.block B h.lt hne).trans h
end

variable {P : Program}

/-- A part of a block is loaded. -/
theorem run_load_blk (w : World) (B k : Nat) (T t : TypeId) (C X : Array Value) (hB : Blk w B T C) (hu : (match P.underlying t with | some (.struct _) | some (.array _ _) => true | _ => false) = true)
    (hn : (P.info? t).map (·.size) = some X.size) (hC : (C.toList.drop k).take X.size = X.toList) : (loadVar t ⟨B, k, none⟩).run P w = .ok (.agg X) w := by
  have hl : (loadCells ⟨B, k, none⟩ X.toList.length).run P w = .ok X.toList.toArray w :=
    run_loadCells_list (P := P) w ⟨B, k, none⟩ X.toList (fun j v hv => by
      have hadd : (⟨B, k, none⟩ : Addr).add j = ⟨B, k + j, none⟩ := by unfold Addr.add; split <;> simp_all
      rw [hadd, hB.c (k + j)]
      rw [← hC] at hv
      have hj : j < X.size := by
        rcases Nat.lt_or_ge j X.size with h | h
        · exact h
        · rw [List.getElem?_eq_none (by simp; omega)] at hv; cases hv
      rw [List.getElem?_take_of_lt hj, List.getElem?_drop] at hv
      simpa using hv)
  cases hq : P.info? t with
  | none => simp [hq] at hn
  | some i =>
    have hs : i.size = X.toList.length := by simp [hq] at hn; simpa using hn
    cases hd : P.underlying t with
    | none => simp [hd] at hu
    | some d =>
      cases d <;> simp [hd] at hu <;> simp [loadVar, isAgg, run_underlying hd, sizeOf, typeInfo, hq, hs] <;> (simp at hl; simp [hl])

theorem exec_load_blk {a : Act} {o : Oper} {w : World} {x : Operand} {B k : Nat} {T : TypeId} {C : Array Value} (t : TypeId) (X : Array Value) (ho : o.op = .load t x) (hx : a.eval x = .pointer (some ⟨B, k, none⟩)) (hB : Blk w B T C)
    (hu : (match P.underlying t with | some (.struct _) | some (.array _ _) => true | _ => false) = true) (hn : (P.info? t).map (·.size) = some X.size) (hC : (C.toList.drop k).take X.size = X.toList) :
    (execOp a.eval o).run P w = .ok (.value (.agg X)) w := by
  have h := run_load_blk (P := P) w B k T t C X hB hu hn hC
  unfold execOp
  simp only [ho, hx, Instr.loadAt, Instr.sureAddr, Sem.run_bind, Sem.run_pure, Result.andThen_ok, h]

theorem load_blk {ops : Array Oper} {rest : List Oper} {o : Oper} {a : Act} {w : World} {Q : Exit → Act → World → Prop} {x : Operand} {B k : Nat} {T : TypeId} {C : Array Value} (t : TypeId) (X : Array Value) (hw : Region.wanted o (yielded ops a.tmps) = true) (ho : o.op = .load t x)
    (hx : a.eval x = .pointer (some ⟨B, k, none⟩)) (hB : Blk w B T C) (hu : (match P.underlying t with | some (.struct _) | some (.array _ _) => true | _ => false) = true) (hn : (P.info? t).map (·.size) = some X.size)
    (hC : (C.toList.drop k).take X.size = X.toList) (h : wpList P ops Q rest (a.put o.dst (.agg X)) w) : wpList P ops Q (o :: rest) a w :=
  wpList_step fun K hK => by
    rw [if_pos hw]
    have h1 := exec_load_blk (P := P) t X ho hx hB hu hn hC
    unfold Oper.wp
    rw [h1]
    exact hK _ _ h

/-- A new variable. -/
theorem alloc_blk {ops : Array Oper} {rest : List Oper} {o : Oper} {a : Act} {w : World} {Q : Exit → Act → World → Prop} (t : TypeId) (Z : Array Value) (hw : Region.wanted o (yielded ops a.tmps) = true) (ho : o.op = .alloc t) (hz : (P.info? t).map (·.zero) = some (some (.agg Z)))
    (h : wpList P ops Q rest (a.put o.dst (.pointer (some ⟨w.heap.size, 0, none⟩))) (w.alloc (.cells Z t))) : wpList P ops Q (o :: rest) a w :=
  wpList_step fun K hK => by
    have h1 : (Instr.alloc t true (.tuple #[])).run P w = .ok (.pointer (some ⟨w.heap.size, 0, none⟩)) (w.alloc (.cells Z t)) := by
      cases hi : P.info? t with
      | none => rw [hi] at hz; cases hz
      | some i =>
        rw [hi] at hz
        simp only [Option.map_some, Option.some.injEq] at hz
        simp [Instr.alloc, zeroValue, typeInfo, hi, hz, newVar, newRow, newObj, Value.cells]
        rfl
    rw [if_pos hw]
    unfold Oper.wp execOp
    simp only [ho, Sem.run_bind, Sem.run_pure, Result.andThen_ok, h1]
    exact hK _ _ h

/-- A part of a block is stored. -/
theorem run_store_blk (w : World) (B k : Nat) (T t : TypeId) (C C' : Array Value) (v : Value) (hB : Blk w B T C) (hn : (P.info? t).map (·.size) = some v.cells.size) (hk : k + v.cells.toList.length ≤ C.size)
    (h1 : v.cells.toList.all (·.oneCell') = true) (hC : (C.toList.take k ++ v.cells.toList ++ C.toList.drop (k + v.cells.toList.length)).toArray = C') : (storeVar t ⟨B, k, none⟩ v).run P w = .ok () (w.setRow B C') := by
  have h2 := run_storeCells_at (P := P) B k T v.cells.toList 0 C w hB (by simpa using hk) (fun c hc => (List.all_eq_true.1 h1) c hc)
  cases hi : P.info? t with
  | none => rw [hi] at hn; cases hn
  | some i =>
    rw [hi] at hn
    simp only [Option.map_some, Option.some.injEq] at hn
    rw [← hC]
    simp only [Nat.add_zero] at h2
    simp [storeVar, sizeOf, typeInfo, hi, hn, h2]

theorem Blk.setRow {w : World} {B : Nat} {T : TypeId} {C : Array Value} (h : Blk w B T C) (C' : Array Value) : Blk (w.setRow B C') B T C' := setRow_heap w B C C' T (0, 0) h

theorem store_blk {ops : Array Oper} {rest : List Oper} {o : Oper} {a : Act} {w : World} {Q : Exit → Act → World → Prop} {p x : Operand} {B k : Nat} {T : TypeId} {C : Array Value} (t : TypeId) (v : Value) (C' : Array Value) (hw : Region.wanted o (yielded ops a.tmps) = true) (ho : o.op = .store t p x)
    (hp : a.eval p = .pointer (some ⟨B, k, none⟩)) (hx : a.eval x = v) (hB : Blk w B T C) (hn : (P.info? t).map (·.size) = some v.cells.size) (hk : k + v.cells.toList.length ≤ C.size) (h1 : v.cells.toList.all (·.oneCell') = true)
    (hC : (C.toList.take k ++ v.cells.toList ++ C.toList.drop (k + v.cells.toList.length)).toArray = C')
    (h : ∀ w', Blk w' B T C' → Below B w w' → w.grownBy w' (some B) → wpList P ops Q rest (a.put o.dst undef) w') : wpList P ops Q (o :: rest) a w :=
  wpList_step fun K hK => by
    rw [if_pos hw]
    have h3 := run_store_blk (P := P) w B k T t C C' v hB hn hk h1 hC
    have hFr := hB.setRow C'
    have hbl : Below B w (w.setRow B C') := below_setRow (Below.refl _ _) (Nat.le_refl _) _
    have hg : w.grownBy (w.setRow B C') (some B) := ⟨rfl, rfl, rfl, by simp, fun j _ hj => setRow_other w B j C' (by intro e; subst e; exact hj rfl)⟩
    unfold Oper.wp execOp
    simp only [ho, hp, hx, Instr.storeAt, Instr.sureAddr, Sem.run_bind, Sem.run_pure, Result.andThen_ok, h3]
    exact hK _ _ (h _ hFr hbl hg)

/-- A struct is built. -/
theorem build_blk {ops : Array Oper} {rest : List Oper} {o : Oper} {a : Act} {w : World} {Q : Exit → Act → World → Prop} {t : TypeId} {parts : Array (Nat × Operand)} (X : Array Value) (hw : Region.wanted o (yielded ops a.tmps) = true) (ho : o.op = .build t parts)
    (hf : P.built t (parts.map fun (i, x) => (i, a.eval x)).toList = some X) (h : wpList P ops Q rest (a.put o.dst (.agg X)) w) : wpList P ops Q (o :: rest) a w :=
  wpList_step fun K hK => by
    rw [if_pos hw]
    have h1 := run_build (P := P) w t (parts.map fun (i, x) => (i, a.eval x)) X hf
    unfold Oper.wp execOp
    simp only [ho, Sem.run_bind, Result.andThen_ok, h1, Sem.run_pure]
    exact hK _ _ h

/-- Two structs, or two arrays, are held against each other. -/
theorem run_eq_agg (w : World) (op : BinOp) (t : TypeId) (x y : Operand) (X Y : Array Value) (b : Bool) (hop : op = .eql ∨ op = .neq) (hg : P.eqGuardType P.depth t = false) (h : (Op.equalIn 10000 t (.agg X) (.agg Y)).run P w = .ok b w) :
    (do eqGuard op t x y (.agg X) (.agg Y); binOp op t (.agg X) (.agg Y) : Sem Value).run P w = .ok (.bool (if op = .eql then b else !b)) w := by
  have h1 : (eqGuard op t x y (.agg X) (.agg Y)).run P w = .ok () w := by rcases hop with rfl | rfl <;> simp [eqGuard, run_program, hg]
  have h2 : (Op.equal t (.agg X) (.agg Y)).run P w = .ok b w := by simpa [Op.equal, Op.maxDepth] using h
  rcases hop with rfl | rfl <;> simp [h1, binOp, h2]

theorem exec_eq_agg {a : Act} {o : Oper} {w : World} {x y : Operand} {ty : TypeId} (op : BinOp) (t : TypeId) (X Y : Array Value) (b : Bool) (ho : o.op = .binOp op t x y ty) (hop : op = .eql ∨ op = .neq) (hx : a.eval x = .agg X) (hy : a.eval y = .agg Y) (hg : P.eqGuardType P.depth t = false)
    (h : (Op.equalIn 10000 t (.agg X) (.agg Y)).run P w = .ok b w) : (execOp a.eval o).run P w = .ok (.value (.bool (if op = .eql then b else !b))) w := by
  have h1 := run_eq_agg (P := P) w op t x y X Y b hop hg h
  simp only [Sem.run_bind] at h1
  unfold execOp
  simp only [ho, hx, hy, Sem.run_bind, Sem.run_pure, h1, Result.andThen_ok]

theorem eq_blk {ops : Array Oper} {rest : List Oper} {o : Oper} {a : Act} {w : World} {Q : Exit → Act → World → Prop} {x y : Operand} {ty : TypeId} (op : BinOp) (t : TypeId) (X Y : Array Value) (b : Bool) (hw : Region.wanted o (yielded ops a.tmps) = true) (ho : o.op = .binOp op t x y ty) (hop : op = .eql ∨ op = .neq)
    (hx : a.eval x = .agg X) (hy : a.eval y = .agg Y) (hg : P.eqGuardType P.depth t = false) (he : (Op.equalIn 10000 t (.agg X) (.agg Y)).run P w = .ok b w)
    (h : wpList P ops Q rest (a.put o.dst (.bool (if op = .eql then b else !b))) w) : wpList P ops Q (o :: rest) a w :=
  wpList_step fun K hK => by
    rw [if_pos hw]
    have h1 := exec_eq_agg (P := P) op t X Y b ho hop hx hy hg he
    unfold Oper.wp
    rw [h1]
    exact hK _ _ h

/-- Arrays of numbers. -/
theorem run_eqItems_ints {P : Program} (w : World) (d : Nat) (e : TypeId) (k k' : IntKind) (he : P.underlying e = some (.int k')) (xs ys : Nat → Int) (X Y : Array Value) : ∀ is : List Nat,
    (∀ i ∈ is, X[i]? = some (.int k (xs i)) ∧ Y[i]? = some (.int k (ys i))) → (Op.eqItems (d + 1) e 1 X Y is).run P w = .ok (is.all fun i => xs i == ys i) w
  | [], _ => by simp [Op.eqItems]
  | i :: is, h => by
    obtain ⟨h1, h2⟩ := h i (by simp)
    have p1 : (part e X (i * 1)).run P w = .ok (.int k (xs i)) w := by simp [part, isAgg, run_underlying he, h1]
    have p2 : (part e Y (i * 1)).run P w = .ok (.int k (ys i)) w := by simp [part, isAgg, run_underlying he, h2]
    have ih := run_eqItems_ints w d e k k' he xs ys X Y is (fun j hj => h j (by simp [hj]))
    have q := run_equalIn_int (P := P) w d e k k' (xs i) (ys i) he
    simp only [Op.eqItems, Sem.run_bind, p1, p2, q, Result.andThen_ok, List.all_cons]
    cases (xs i == ys i)
    · simp
    · simpa using ih

theorem run_eql_ints {P : Program} (w : World) (d n : Nat) (t e : TypeId) (k k' : IntKind) (i : TypeInfo) (ht : P.underlying t = some (.array n e)) (he : P.underlying e = some (.int k')) (hi : P.info? e = some i) (hc : P.cellsOf e = 1) (xs ys : Nat → Int) (X Y : Array Value)
    (h : ∀ j, j < n → X[j]? = some (.int k (xs j)) ∧ Y[j]? = some (.int k (ys j))) : (Op.equalIn (d + 2) t (.agg X) (.agg Y)).run P w = .ok ((List.range n).all fun i => xs i == ys i) w := by
  rw [run_equalIn_array w (d + 1) _ _ ht hi, hc]
  exact run_eqItems_ints w d e k k' he xs ys X Y (List.range n) (fun j hj => h j (List.mem_range.1 hj))

/-- The fields of two structs, one behind the other. -/
theorem run_eqFields_nil {P : Program} (w : World) (d : Nat) (xs ys : Array Value) : (Op.eqFields d xs ys []).run P w = .ok true w := by simp [Op.eqFields]

theorem run_eqFields_cons {P : Program} (w : World) (d : Nat) (xs ys : Array Value) (f : Field) (fs : List Field) (t : TypeId) (k : Nat) (x y : Value) (b r : Bool) (hf : (f.name == "_", f.type, f.offset) = (false, t, k)) (px : (part t xs k).run P w = .ok x w) (py : (part t ys k).run P w = .ok y w)
    (he : (Op.equalIn d t x y).run P w = .ok b w) (hr : (Op.eqFields d xs ys fs).run P w = .ok r w) : (Op.eqFields d xs ys (f :: fs)).run P w = .ok (b && r) w := by
  simp only [Prod.mk.injEq, beq_eq_false_iff_ne, ne_eq] at hf
  obtain ⟨hn, rfl, rfl⟩ := hf
  simp only [Op.eqFields, ne_eq, hn, not_false_eq_true, if_true, Sem.run_bind, px, py, he, Result.andThen_ok]
  cases b <;> simp [hr]

/-- A part of a row. -/
theorem run_part_agg {P : Program} (w : World) (t : TypeId) (xs : Array Value) (k n : Nat) (X : Array Value) (hu : (match P.underlying t with | some (.struct _) | some (.array _ _) => true | _ => false) = true) (hn : (P.info? t).map (·.size) = some n) (hX : xs.extract k (k + n) = X) : (part t xs k).run P w = .ok (.agg X) w := by
  cases hq : P.info? t with
  | none => simp [hq] at hn
  | some i =>
    have hs : i.size = n := by simpa [hq] using hn
    cases hd : P.underlying t with
    | none => simp [hd] at hu
    | some d => cases d <;> simp [hd] at hu <;> simp [part, isAgg, run_underlying hd, sizeOf, typeInfo, hq, hs, hX]

theorem run_part_one {P : Program} (w : World) (t : TypeId) (xs : Array Value) (k : Nat) (v : Value) (hu : (match P.underlying t with | some (.struct _) | some (.array _ _) => true | some _ => false | none => true) = false) (hX : xs[k]? = some v) : (part t xs k).run P w = .ok v w := by
  cases hd : P.underlying t with
  | none => simp [hd] at hu
  | some d => cases d <;> simp [hd] at hu <;> simp [part, isAgg, run_underlying hd, hX]

/-- Results that lie in memory. -/
theorem results_blk {P : Program} {fn : Func} {tmps : Array Value} {w : World} {a t B : Nat} {T : TypeId} {X : Array Value} (h : fn.results = #[.cell a t]) (ha : tmps.getD a undef = .pointer (some ⟨B, 0, none⟩)) (hB : Blk w B T X)
    (hu : (match P.underlying t with | some (.struct _) | some (.array _ _) => true | _ => false) = true) (hn : (P.info? t).map (·.size) = some X.size) : (results fn tmps).run P w = .ok (.agg X) w := by
  have h1 := run_load_blk (P := P) w B 0 T t X X hB hu hn (by rw [List.drop_zero]; exact List.take_of_length_le (by simp))
  rw [Array.getD_eq_getD_getElem?] at ha
  simp only [results, h]
  simp [ha, asAddr, h1]

theorem results_blk_tmp {P : Program} {fn : Func} {tmps : Array Value} {w : World} {a t u B : Nat} {T : TypeId} {X : Array Value} (h : fn.results = #[.cell a t, .tmp u]) (ha : tmps.getD a undef = .pointer (some ⟨B, 0, none⟩)) (hB : Blk w B T X)
    (hu : (match P.underlying t with | some (.struct _) | some (.array _ _) => true | _ => false) = true) (hn : (P.info? t).map (·.size) = some X.size) : (results fn tmps).run P w = .ok (.tuple #[.agg X, tmps.getD u undef]) w := by
  have h1 := run_load_blk (P := P) w B 0 T t X X hB hu hn (by rw [List.drop_zero]; exact List.take_of_length_le (by simp))
  rw [Array.getD_eq_getD_getElem?] at ha
  simp only [results, h]
  simp [ha, asAddr, h1]

theorem results_blk2 {P : Program} {fn : Func} {tmps : Array Value} {w : World} {a t b u B D : Nat} {T U : TypeId} {X Y : Array Value} (h : fn.results = #[.cell a t, .cell b u]) (ha : tmps.getD a undef = .pointer (some ⟨B, 0, none⟩)) (hb : tmps.getD b undef = .pointer (some ⟨D, 0, none⟩)) (hB : Blk w B T X) (hD : Blk w D U Y)
    (hu : (match P.underlying t with | some (.struct _) | some (.array _ _) => true | _ => false) = true) (hn : (P.info? t).map (·.size) = some X.size) (hu2 : (match P.underlying u with | some (.struct _) | some (.array _ _) => true | _ => false) = true) (hn2 : (P.info? u).map (·.size) = some Y.size) :
    (results fn tmps).run P w = .ok (.tuple #[.agg X, .agg Y]) w := by
  have h1 := run_load_blk (P := P) w B 0 T t X X hB hu hn (by rw [List.drop_zero]; exact List.take_of_length_le (by simp))
  have h2 := run_load_blk (P := P) w D 0 U u Y Y hD hu2 hn2 (by rw [List.drop_zero]; exact List.take_of_length_le (by simp))
  rw [Array.getD_eq_getD_getElem?] at ha hb
  simp only [results, h]
  simp [ha, hb, asAddr, h1, h2]

end Go.Proofs.Ytdceggekhhflgaa
