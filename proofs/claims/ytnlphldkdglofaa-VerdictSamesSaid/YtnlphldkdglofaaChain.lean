/- A long '&&' walked over a frame that is known at a few slots alone. -/
import Derived.Test.YtnlphldkdglofaaBlk
namespace Go.Proofs.Ytnlphldkdglofaa
open Go.RowKit
set_option linter.unusedSimpArgs false
set_option linter.unusedVariables false
set_option maxRecDepth 100000

/-- A slot's value. -/
def At (a : Act) (s : Nat) (v : Value) : Prop := a.tmps[s]? = some v

/-- A frame that is as an earlier one at its first slots. -/
structure Sm (lo : Nat) (a0 a : Act) : Prop where
  sz : a.tmps.size = a0.tmps.size
  df : a.defers = a0.defers
  lw : ∀ s, s < lo → a.tmps[s]? = a0.tmps[s]?

theorem Sm.refl (lo : Nat) (a : Act) : Sm lo a a := ⟨rfl, rfl, fun _ _ => rfl⟩

theorem Sm.put {lo : Nat} {a0 a : Act} (h : Sm lo a0 a) {dst : Option Tmp} {d : Nat} (hd : dst = some d) (hlo : lo ≤ d) (v : Value) : Sm lo a0 (a.put dst v) := by
  subst hd
  refine ⟨?_, h.df, fun s hs => ?_⟩
  · simp [Act.put, h.sz]
  · rw [← h.lw s hs]
    simp only [Act.put]
    rw [Array.getElem?_setIfInBounds_ne (by omega)]

theorem At.put {a : Act} {s d : Nat} {v : Value} (h : At a s v) {dst : Option Tmp} (hd : dst = some d) (hne : s ≠ d) (u : Value) : At (a.put dst u) s v := by
  subst hd
  unfold At at *
  simp only [Act.put]
  rw [Array.getElem?_setIfInBounds_ne (by omega)]
  exact h

theorem At.new {a : Act} {d : Nat} {dst : Option Tmp} (hd : dst = some d) (hs : d < a.tmps.size) (u : Value) : At (a.put dst u) d u := by
  subst hd
  unfold At
  simp only [Act.put]
  rw [Array.getElem?_setIfInBounds_self_of_lt hs]

theorem At.eval {a : Act} {s : Nat} {v : Value} (h : At a s v) : a.eval (.tmp s) = v := by
  unfold At at h
  simp [Act.eval, Array.getD_eq_getD_getElem?, h]

theorem At.low {lo : Nat} {a0 a : Act} {s : Nat} {v : Value} (h : At a0 s v) (hS : Sm lo a0 a) (hs : s < lo) : At a s v := (hS.lw s hs).trans h

section
variable {P : Program} {ops : Array Oper} {Q : Exit → Act → World → Prop} {a a0 : Act} {w : World} {rest : List Oper} {o : Oper}

theorem step_val (v : Value) (hw : Region.wanted o (yielded ops a.tmps) = true) (hx : (execOp a.eval o).run P w = .ok (.value v) w) (h : wpList P ops Q rest (a.put o.dst v) w) : wpList P ops Q (o :: rest) a w :=
  wpList_step fun K hK => by
    rw [if_pos hw]
    unfold Oper.wp
    rw [hx]
    exact hK _ _ h

theorem step_skip (hw : Region.wanted o (yielded ops a.tmps) = false) (h : wpList P ops Q rest (a.put o.dst undef) w) : wpList P ops Q (o :: rest) a w :=
  wpList_step fun K hK => by
    rw [if_neg (by rw [hw]; decide)]
    exact hK _ _ h

theorem step_call (f : FuncId) (args : Array Value) (R : Ending → World → Prop) (hw : Region.wanted o (yielded ops a.tmps) = true) (hx : (execOp a.eval o).run P w = .ok (.enter f args) w) (hc : Calls P f args w R)
    (h : ∀ e w', R e w' → ∃ v, e = .returned v ∧ wpList P ops Q rest (a.put o.dst v) w') : wpList P ops Q (o :: rest) a w :=
  wpList_step fun K hK => by
    rw [if_pos hw]
    unfold Oper.wp
    rw [hx]
    refine Calls.mono hc ?_
    intro e w' he
    obtain ⟨v, rfl, h2⟩ := h e w' he
    exact hK _ _ h2

theorem wanted_plain (hg : o.guard = none) (t : Array Value) : Region.wanted o (yielded ops t) = true := by simp [Region.wanted, hg]

theorem wanted_at {j g : Nat} {b : Bool} (hg : o.guard = some (j, b)) (hj : (ops[j]?).bind (·.dst) = some g) (hA : At a g (.bool b)) : Region.wanted o (yielded ops a.tmps) = true := by
  unfold At at hA
  simp [Region.wanted, hg, yielded, hj, hA]

theorem unwanted_at {j g : Nat} (hg : o.guard = some (j, true)) (hj : (ops[j]?).bind (·.dst) = some g) (hA : At a g (.bool false)) : Region.wanted o (yielded ops a.tmps) = false := by
  unfold At at hA
  simp [Region.wanted, hg, yielded, hj, hA]

theorem ex_move {x : Operand} {v : Value} (ho : o.op = .move x) (hx : a.eval x = v) : (execOp a.eval o).run P w = .ok (.value v) w := by
  unfold execOp; simp only [ho, hx]; rfl

theorem ex_assign {x : Operand} {v : Value} (ho : o.op = .assign x) (hx : a.eval x = v) : (execOp a.eval o).run P w = .ok (.value v) w := by
  unfold execOp; simp only [ho, hx]; rfl

theorem ex_pick {c x y : Operand} {b : Bool} {v : Value} (ho : o.op = .pick c x y) (hc : a.eval c = .bool b) (hv : (if b then a.eval x else a.eval y) = v) : (execOp a.eval o).run P w = .ok (.value v) w := by
  unfold execOp; simp only [ho, hc]
  subst hv
  cases b <;> rfl

theorem ex_field {T : TypeId} {x : Operand} {f B k : Nat} (ho : o.op = .fieldAddr T x f) (hx : a.eval x = .pointer (some ⟨B, 0, none⟩)) (hf : (Instr.fieldAt T (.pointer (some ⟨B, 0, none⟩)) f).run P w = .ok (.pointer (some ⟨B, k, none⟩)) w) :
    (execOp a.eval o).run P w = .ok (.value (.pointer (some ⟨B, k, none⟩))) w := by
  unfold execOp
  simp only [ho, hx, Sem.run_bind, Sem.run_pure, Result.andThen_ok, hf]

theorem ex_load {t : TypeId} {x : Operand} {B k : Nat} {v : Value} (ho : o.op = .load t x) (hx : a.eval x = .pointer (some ⟨B, k, none⟩)) (hl : (Instr.loadAt t (.pointer (some ⟨B, k, none⟩))).run P w = .ok v w) :
    (execOp a.eval o).run P w = .ok (.value v) w := by
  unfold execOp
  simp only [ho, hx, Sem.run_bind, Sem.run_pure, Result.andThen_ok, hl]

theorem ex_eq {t u : TypeId} {x y : Operand} {v1 v2 : Value} {b : Bool} (ho : o.op = .binOp .eql t x y u) (hx : a.eval x = v1) (hy : a.eval y = v2) (hr : (do eqGuard .eql t x y v1 v2; binOp .eql t v1 v2 : Sem Value).run P w = .ok (.bool b) w) :
    (execOp a.eval o).run P w = .ok (.value (.bool b)) w := by
  unfold execOp
  simp only [ho, hx, hy, Sem.run_bind, Sem.run_pure, Result.andThen_ok] at *
  rw [hr]
  rfl

theorem ex_call2 {f : FuncId} {x y : Operand} {v1 v2 : Value} {ts : Array TypeId} {fn : Func} (ho : o.op = .call ⟨.value (.func f), #[x, y], ts⟩) (hx : a.eval x = v1) (hy : a.eval y = v2) (hf : P.funcs[f]? = some fn) (hname : (fn.name == "runtime.NumGoroutine") = false) {c : Code} (hb : fn.body = some c) :
    (execOp a.eval o).run P w = .ok (.enter f #[v1, v2]) w := by
  have h1 : fn.name ≠ "runtime.NumGoroutine" := by simpa using hname
  unfold execOp
  simp only [ho]
  have ef : ∀ q, a.eval (.func q) = .func (.func q) #[] #[] := fun _ => rfl
  simp [resolve, Deferred.ofValue, invoke, callFunc, ef, hx, hy, hf, h1, hb]

theorem ex_call3 {f g : FuncId} {x y : Operand} {v1 v2 : Value} {ts : Array TypeId} {fn : Func} (ho : o.op = .call ⟨.value (.func f), #[x, y, .func g], ts⟩) (hx : a.eval x = v1) (hy : a.eval y = v2) (hf : P.funcs[f]? = some fn) (hname : (fn.name == "runtime.NumGoroutine") = false) {c : Code} (hb : fn.body = some c) :
    (execOp a.eval o).run P w = .ok (.enter f #[v1, v2, .func (.func g) #[] #[]]) w := by
  have h1 : fn.name ≠ "runtime.NumGoroutine" := by simpa using hname
  unfold execOp
  simp only [ho]
  have ef : ∀ q, a.eval (.func q) = .func (.func q) #[] #[] := fun _ => rfl
  simp [resolve, Deferred.ofValue, invoke, callFunc, ef, hx, hy, hf, h1, hb]

theorem chain_end {fn : Func} {R : Ending → World → Prop} {K : Act → World → Prop} {r : Nat} {b : Bool} (hK : ∀ a w, Code.wp P Code.ret (bodyPost P fn R) a w → K a w) (hres : fn.results = #[.tmp r]) (hd : a.defers = []) (hA : At a r (.bool b)) (hR : R (.returned (.bool b)) w) :
    Exit.then K (bodyPost P fn R) .normal a w := by
  refine hK a w (wp_ret ?_)
  refine bodyPost_ret (results_tmp hres _ _ _) hd ?_
  have e : a.tmps.getD r undef = .bool b := hA.eval
  rw [e]
  exact hR

/-- Two fields, loaded and held against each other (or given to a call). -/
theorem cmp5 {lo g d1 d2 d3 d4 d5 p1 p2 : Nat} {gv q1 q2 r1 r2 v1 v2 : Value} {o1 o2 o3 o4 o5 : Oper} (b : Bool) (hS : Sm lo a0 a) (hG : At a g gv) (h1 : At a0 p1 q1) (h2 : At a0 p2 q2)
    (W1 : ∀ a', Sm lo a0 a' → At a' g gv → Region.wanted o1 (yielded ops a'.tmps) = true) (W2 : ∀ a', Sm lo a0 a' → At a' g gv → Region.wanted o2 (yielded ops a'.tmps) = true) (W3 : ∀ a', Sm lo a0 a' → At a' g gv → Region.wanted o3 (yielded ops a'.tmps) = true)
    (W4 : ∀ a', Sm lo a0 a' → At a' g gv → Region.wanted o4 (yielded ops a'.tmps) = true) (W5 : ∀ a', Sm lo a0 a' → At a' g gv → Region.wanted o5 (yielded ops a'.tmps) = true)
    (D1 : o1.dst = some d1) (D2 : o2.dst = some d2) (D3 : o3.dst = some d3) (D4 : o4.dst = some d4) (D5 : o5.dst = some d5)
    (hb : p1 < lo ∧ p2 < lo ∧ lo ≤ d1 ∧ d1 < d2 ∧ d2 < d3 ∧ d3 < d4 ∧ d4 < d5 ∧ d5 < a0.tmps.size ∧ g < d1)
    (X1 : ∀ a' : Act, a'.eval (.tmp p1) = q1 → (execOp a'.eval o1).run P w = .ok (.value r1) w)
    (X2 : ∀ a' : Act, a'.eval (.tmp d1) = r1 → (execOp a'.eval o2).run P w = .ok (.value v1) w)
    (X3 : ∀ a' : Act, a'.eval (.tmp p2) = q2 → (execOp a'.eval o3).run P w = .ok (.value r2) w)
    (X4 : ∀ a' : Act, a'.eval (.tmp d3) = r2 → (execOp a'.eval o4).run P w = .ok (.value v2) w)
    (X5 : ∀ a' : Act, a'.eval (.tmp d2) = v1 → a'.eval (.tmp d4) = v2 → (execOp a'.eval o5).run P w = .ok (.value (.bool b)) w)
    (h : ∀ a', Sm lo a0 a' → At a' g gv → At a' d5 (.bool b) → wpList P ops Q rest a' w) : wpList P ops Q (o1 :: o2 :: o3 :: o4 :: o5 :: rest) a w := by
  obtain ⟨b1, b2, b3, b4, b5, b6, b7, b8, b9⟩ := hb
  refine step_val r1 (W1 _ hS hG) (X1 _ (h1.low hS b1).eval) ?_
  have S1 := hS.put D1 b3 r1
  have G1 := hG.put D1 (by omega) r1
  have A1 : At (a.put o1.dst r1) d1 r1 := At.new D1 (by rw [hS.sz]; omega) _
  generalize a.put o1.dst r1 = a1 at *
  refine step_val v1 (W2 _ S1 G1) (X2 _ A1.eval) ?_
  have S2 := S1.put D2 (by omega) v1
  have G2 := G1.put D2 (by omega) v1
  have A2 : At (a1.put o2.dst v1) d2 v1 := At.new D2 (by rw [S1.sz]; omega) _
  generalize a1.put o2.dst v1 = a2 at *
  refine step_val r2 (W3 _ S2 G2) (X3 _ (h2.low S2 b2).eval) ?_
  have S3 := S2.put D3 (by omega) r2
  have G3 := G2.put D3 (by omega) r2
  have A23 := A2.put D3 (by omega) r2
  have A3 : At (a2.put o3.dst r2) d3 r2 := At.new D3 (by rw [S2.sz]; omega) _
  generalize a2.put o3.dst r2 = a3 at *
  refine step_val v2 (W4 _ S3 G3) (X4 _ A3.eval) ?_
  have S4 := S3.put D4 (by omega) v2
  have G4 := G3.put D4 (by omega) v2
  have A24 := A23.put D4 (by omega) v2
  have A4 : At (a3.put o4.dst v2) d4 v2 := At.new D4 (by rw [S3.sz]; omega) _
  generalize a3.put o4.dst v2 = a4 at *
  refine step_val (.bool b) (W5 _ S4 G4) (X5 _ A24.eval A4.eval) ?_
  exact h _ (S4.put D5 (by omega) _) (G4.put D5 (by omega) _) (At.new D5 (by rw [S4.sz]; omega) _)

/-- The same ahead of a call. -/
theorem cal5 {lo g d1 d2 d3 d4 d5 p1 p2 : Nat} {gv q1 q2 r1 r2 v1 v2 : Value} {o1 o2 o3 o4 o5 : Oper} (b : Bool) {f : FuncId} {args : Array Value} (hS : Sm lo a0 a) (hG : At a g gv) (h1 : At a0 p1 q1) (h2 : At a0 p2 q2)
    (W1 : ∀ a', Sm lo a0 a' → At a' g gv → Region.wanted o1 (yielded ops a'.tmps) = true) (W2 : ∀ a', Sm lo a0 a' → At a' g gv → Region.wanted o2 (yielded ops a'.tmps) = true) (W3 : ∀ a', Sm lo a0 a' → At a' g gv → Region.wanted o3 (yielded ops a'.tmps) = true)
    (W4 : ∀ a', Sm lo a0 a' → At a' g gv → Region.wanted o4 (yielded ops a'.tmps) = true) (W5 : ∀ a', Sm lo a0 a' → At a' g gv → Region.wanted o5 (yielded ops a'.tmps) = true)
    (D1 : o1.dst = some d1) (D2 : o2.dst = some d2) (D3 : o3.dst = some d3) (D4 : o4.dst = some d4) (D5 : o5.dst = some d5)
    (hb : p1 < lo ∧ p2 < lo ∧ lo ≤ d1 ∧ d1 < d2 ∧ d2 < d3 ∧ d3 < d4 ∧ d4 < d5 ∧ d5 < a0.tmps.size ∧ g < d1)
    (X1 : ∀ a' : Act, a'.eval (.tmp p1) = q1 → (execOp a'.eval o1).run P w = .ok (.value r1) w)
    (X2 : ∀ a' : Act, a'.eval (.tmp d1) = r1 → (execOp a'.eval o2).run P w = .ok (.value v1) w)
    (X3 : ∀ a' : Act, a'.eval (.tmp p2) = q2 → (execOp a'.eval o3).run P w = .ok (.value r2) w)
    (X4 : ∀ a' : Act, a'.eval (.tmp d3) = r2 → (execOp a'.eval o4).run P w = .ok (.value v2) w)
    (X5 : ∀ a' : Act, a'.eval (.tmp d2) = v1 → a'.eval (.tmp d4) = v2 → (execOp a'.eval o5).run P w = .ok (.enter f args) w)
    (hc : Calls P f args w fun e w' => e = .returned (.bool b) ∧ Below w.heap.size w w')
    (h : ∀ a' w', Below w.heap.size w w' → Sm lo a0 a' → At a' g gv → At a' d5 (.bool b) → wpList P ops Q rest a' w') : wpList P ops Q (o1 :: o2 :: o3 :: o4 :: o5 :: rest) a w := by
  obtain ⟨b1, b2, b3, b4, b5, b6, b7, b8, b9⟩ := hb
  refine step_val r1 (W1 _ hS hG) (X1 _ (h1.low hS b1).eval) ?_
  have S1 := hS.put D1 b3 r1
  have G1 := hG.put D1 (by omega) r1
  have A1 : At (a.put o1.dst r1) d1 r1 := At.new D1 (by rw [hS.sz]; omega) _
  generalize a.put o1.dst r1 = a1 at *
  refine step_val v1 (W2 _ S1 G1) (X2 _ A1.eval) ?_
  have S2 := S1.put D2 (by omega) v1
  have G2 := G1.put D2 (by omega) v1
  have A2 : At (a1.put o2.dst v1) d2 v1 := At.new D2 (by rw [S1.sz]; omega) _
  generalize a1.put o2.dst v1 = a2 at *
  refine step_val r2 (W3 _ S2 G2) (X3 _ (h2.low S2 b2).eval) ?_
  have S3 := S2.put D3 (by omega) r2
  have G3 := G2.put D3 (by omega) r2
  have A23 := A2.put D3 (by omega) r2
  have A3 : At (a2.put o3.dst r2) d3 r2 := At.new D3 (by rw [S2.sz]; omega) _
  generalize a2.put o3.dst r2 = a3 at *
  refine step_val v2 (W4 _ S3 G3) (X4 _ A3.eval) ?_
  have S4 := S3.put D4 (by omega) v2
  have G4 := G3.put D4 (by omega) v2
  have A24 := A23.put D4 (by omega) v2
  have A4 : At (a3.put o4.dst v2) d4 v2 := At.new D4 (by rw [S3.sz]; omega) _
  generalize a3.put o4.dst v2 = a4 at *
  refine step_call f args _ (W5 _ S4 G4) (X5 _ A24.eval A4.eval) hc ?_
  rintro e w' ⟨rfl, hB⟩
  exact ⟨_, rfl, h _ _ hB (S4.put D5 (by omega) _) (G4.put D5 (by omega) _) (At.new D5 (by rw [S4.sz]; omega) _)⟩

/-- The first comparison's value is kept. -/
theorem one_move {lo d5 d7 : Nat} {b : Bool} {o7 : Oper} (hS : Sm lo a0 a) (hA : At a d5 (.bool b)) (g7 : o7.guard = none) (e7 : o7.op = .move (.tmp d5)) (D7 : o7.dst = some d7) (hb : lo ≤ d7 ∧ d7 < a0.tmps.size)
    (h : ∀ a', Sm lo a0 a' → At a' d7 (.bool b) → wpList P ops Q rest a' w) : wpList P ops Q (o7 :: rest) a w := by
  refine step_val (.bool b) (wanted_plain g7 _) (ex_move e7 hA.eval) ?_
  exact h _ (hS.put D7 hb.1 _) (At.new D7 (by rw [hS.sz]; exact hb.2) _)

/-- What was compared joins what is ahead of it. -/
theorem pick_move {lo g d5 d6 d7 : Nat} {b : Bool} {o6 o7 : Oper} (hS : Sm lo a0 a) (hG : At a g (.bool true)) (hA : At a d5 (.bool b)) (g6 : o6.guard = none) (g7 : o7.guard = none)
    (e6 : o6.op = .pick (.tmp g) (.tmp d5) (.const (.bool false))) (e7 : o7.op = .move (.tmp d6)) (D6 : o6.dst = some d6) (D7 : o7.dst = some d7) (hb : lo ≤ d6 ∧ lo ≤ d7 ∧ d6 < a0.tmps.size ∧ d7 < a0.tmps.size)
    (h : ∀ a', Sm lo a0 a' → At a' d7 (.bool b) → wpList P ops Q rest a' w) : wpList P ops Q (o6 :: o7 :: rest) a w := by
  refine step_val (.bool b) (wanted_plain g6 _) (ex_pick e6 hG.eval (by rw [if_pos rfl]; exact hA.eval)) ?_
  have S6 := hS.put D6 hb.1 (.bool b)
  have A6 : At (a.put o6.dst (.bool b)) d6 (.bool b) := At.new D6 (by rw [hS.sz]; exact hb.2.2.1) _
  generalize a.put o6.dst (.bool b) = a1 at *
  refine step_val (.bool b) (wanted_plain g7 _) (ex_move e7 A6.eval) ?_
  exact h _ (S6.put D7 hb.2.1 _) (At.new D7 (by rw [S6.sz]; exact hb.2.2.2) _)

/-- The last one is the answer. -/
theorem pick_end {lo g d5 d6 r : Nat} {b : Bool} {o6 o7 : Oper} (hS : Sm lo a0 a) (hG : At a g (.bool true)) (hA : At a d5 (.bool b)) (g6 : o6.guard = none) (g7 : o7.guard = none)
    (e6 : o6.op = .pick (.tmp g) (.tmp d5) (.const (.bool false))) (e7 : o7.op = .assign (.tmp d6)) (D6 : o6.dst = some d6) (D7 : o7.dst = some r) (hb : lo ≤ d6 ∧ d6 < a0.tmps.size ∧ r < a0.tmps.size)
    (h : ∀ a', a'.tmps.size = a0.tmps.size → a'.defers = a0.defers → At a' r (.bool b) → Q .normal a' w) : wpList P ops Q [o6, o7] a w := by
  refine step_val (.bool b) (wanted_plain g6 _) (ex_pick e6 hG.eval (by rw [if_pos rfl]; exact hA.eval)) ?_
  have S6 := hS.put D6 hb.1 (.bool b)
  have A6 : At (a.put o6.dst (.bool b)) d6 (.bool b) := At.new D6 (by rw [hS.sz]; exact hb.2.1) _
  generalize a.put o6.dst (.bool b) = a1 at *
  refine step_val (.bool b) (wanted_plain g7 _) (ex_assign e7 A6.eval) ?_
  refine wpList_nil (h _ ?_ ?_ (At.new D7 (by rw [S6.sz]; exact hb.2.2) _))
  · rw [D7]; simp [Act.put, S6.sz]
  · rw [D7]; exact S6.df

/-- What is left of a long '&&' one of whose parts is false. -/
def skipF (ops : Array Oper) : List Oper → Nat → List Nat → Option (List Nat)
  | [], _, F => some F
  | o :: l, n, F =>
    match o.dst with
    | none => none
    | some d =>
      if d < n && !(F.contains d) then
        match o.guard with
        | some (j, true) =>
          match (ops[j]?).bind (·.dst) with
          | some s => if F.contains s then skipF ops l n F else none
          | none => none
        | some (_, false) => none
        | none =>
          match o.op with
          | .pick (.tmp s) _ (.const (.bool false)) => if F.contains s then skipF ops l n (d :: F) else none
          | .move (.tmp s) => if F.contains s then skipF ops l n (d :: F) else none
          | .assign (.tmp s) => if F.contains s then skipF ops l n (d :: F) else none
          | _ => none
      else none

theorem skip_all (n : Nat) : ∀ (l : List Oper) (F F' : List Nat) (a : Act), (∀ s ∈ F, At a s (.bool false)) → a.tmps.size = n → skipF ops l n F = some F' →
    (∀ a', a'.tmps.size = n → a'.defers = a.defers → (∀ s ∈ F', At a' s (.bool false)) → Q .normal a' w) → wpList P ops Q l a w
  | [], F, F', a, hF, hn, hs, h => by
    simp only [skipF, Option.some.injEq] at hs
    subst hs
    exact wpList_nil (h a hn rfl hF)
  | o :: l, F, F', a, hF, hn, hs, h => by
    unfold skipF at hs
    split at hs
    · cases hs
    rename_i d hd
    split at hs
    · rename_i hc
      simp only [Bool.and_eq_true, decide_eq_true_eq, Bool.not_eq_true', List.contains_eq_mem, decide_eq_false_iff_not] at hc
      have put : ∀ v, (∀ s ∈ F, At (a.put o.dst v) s (.bool false)) ∧ (a.put o.dst v).tmps.size = n ∧ (a.put o.dst v).defers = a.defers := fun v =>
        ⟨fun s hs' => (hF s hs').put hd (fun q => hc.2 (q ▸ hs')) v, by rw [hd]; simp [Act.put, hn], by rw [hd]; rfl⟩
      split at hs
      · rename_i j hg
        split at hs
        · rename_i s hj
          split at hs
          · rename_i hm
            obtain ⟨p1, p2, p3⟩ := put undef
            refine step_skip (unwanted_at hg hj (hF s (by simpa using hm))) ?_
            exact skip_all n l F F' _ p1 p2 hs (fun a' e1 e2 e3 => h a' e1 (e2.trans p3) e3)
          · cases hs
        · cases hs
      · cases hs
      · rename_i hg
        obtain ⟨p1, p2, p3⟩ := put (.bool false)
        have more : ∀ s ∈ d :: F, At (a.put o.dst (.bool false)) s (.bool false) := fun s hs' => by
          rcases List.mem_cons.1 hs' with rfl | hs'
          · exact At.new hd (by rw [hn]; exact hc.1) _
          · exact p1 s hs'
        split at hs
        · rename_i s x ho
          split at hs
          · rename_i hm
            refine step_val (.bool false) (wanted_plain hg _) (ex_pick ho (hF s (by simpa using hm)).eval rfl) ?_
            exact skip_all n l (d :: F) F' _ more p2 hs (fun a' e1 e2 e3 => h a' e1 (e2.trans p3) e3)
          · cases hs
        · rename_i s ho
          split at hs
          · rename_i hm
            refine step_val (.bool false) (wanted_plain hg _) (ex_move ho (hF s (by simpa using hm)).eval) ?_
            exact skip_all n l (d :: F) F' _ more p2 hs (fun a' e1 e2 e3 => h a' e1 (e2.trans p3) e3)
          · cases hs
        · rename_i s ho
          split at hs
          · rename_i hm
            refine step_val (.bool false) (wanted_plain hg _) (ex_assign ho (hF s (by simpa using hm)).eval) ?_
            exact skip_all n l (d :: F) F' _ more p2 hs (fun a' e1 e2 e3 => h a' e1 (e2.trans p3) e3)
          · cases hs
        · cases hs
    · cases hs

/-- The same, where the answer's slot is all that is wanted. -/
theorem skip_to (n r s : Nat) (l : List Oper) (hA : At a s (.bool false)) (hn : a.tmps.size = n) (hs : ((skipF ops l n [s]).any (·.contains r)) = true)
    (h : ∀ a', a'.tmps.size = n → a'.defers = a.defers → At a' r (.bool false) → Q .normal a' w) : wpList P ops Q l a w := by
  cases hk : skipF ops l n [s] with
  | none => rw [hk] at hs; simp at hs
  | some F' =>
    rw [hk] at hs
    refine skip_all n l [s] F' a (fun x hx => ?_) hn hk (fun a' e1 e2 e3 => h a' e1 e2 (e3 r (by simpa using hs)))
    rw [List.mem_singleton] at hx
    subst hx
    exact hA
end

end Go.Proofs.Ytnlphldkdglofaa
