/- A range over a function: a round by its body's walk, the statement by its iterator's call. -/
import Derived.RangeFuncNested
import Derived.RangeFuncCalls
import Derived.RangeFuncBox
import Derived.RangeFuncLeaves
import Derived.OwnWalkIn
import Derived.TacticsInMore
import Derived.LoopIn
import Derived.Great.BuildSlice
import Derived.Test.YtdjljnpbnhampaaDoorBlk
namespace Go.Proofs.YtdjljnpbnhampaaDoor
open Go.RowKit
set_option linter.unusedVariables false

/-- The loop's record. -/
def recL (fn : FuncId) (tmps : Array Value) (ps : Array Tmp) (assign body : Code) (D : Nat) (st : LoopState) : Loop := { state := st, pending := none, fn, tmps, params := ps, assign, body, defers := D }

/-- The records of one loop, by its state. -/
def RecIs (RL : LoopState → Loop) (fn : FuncId) (tmps : Array Value) (ps : Array Tmp) (assign body : Code) (D : Nat) : Prop := ∀ st, RL st = recL fn tmps ps assign body D st

/-- How a round's body is left here: off its end. -/
def bodyR (l : Nat) (RL : LoopState → Loop) (R : Ending → World → Prop) : Exit → Act → World → Prop
  | .normal, _, W => W.heap[l]? = some (.loop (RL .busy)) ∧ R (.returned (.bool true)) (W.putObj l (.loop (RL .ready)))
  | _, _, _ => False

section
variable {P : Program}

theorem yield_of {n l : Nat} {RL : LoopState → Loop} {fn : FuncId} {tmps : Array Value} {ps : Array Tmp} {assign body : Code} {D : Nat} (hRL : RecIs RL fn tmps ps assign body D) {args : Array Value} {W : World} {R : Ending → World → Prop} (hl : W.heap[l]? = some (.loop (RL .ready))) (hs : args.size = ps.size)
    (h : assign.wpIn (Fence.wide.inRound l) n P (Exit.then (fun a1 W1 => W1.heap[l]? = some (.loop (RL .ready)) ∧ body.wpIn (Fence.wide.inRound l) n P (bodyR l RL R) a1 (W1.putObj l (.loop (RL .busy)))) (fun _ _ _ => False))
      { tmps := (ps.zip args).foldl (fun t (p, v) => t.setIfInBounds p v) tmps, defers := [] } W) : YieldAt Fence.wide n P l args W R := by
  have e1 := hRL .ready
  have e2 := hRL .busy
  have hy := run_yield (P := P) (args := args) hl (by rw [e1]; exact hs)
  rw [e1] at hy
  refine ⟨fn, _, assign, body, hy, roundIn_of_wpIn trivial (wpIn_mono h ?_)⟩
  intro e a1 W1 hq
  cases e with
  | normal =>
    obtain ⟨hl1, hb⟩ := hq
    rw [e1] at hl1
    have hbr := run_beginRound (P := P) hl1 rfl
    refine ⟨_, hbr, wpIn_mono (show body.wpIn (Fence.wide.inRound l) n P (bodyR l RL R) a1 (W1.putObj l (.loop { recL fn tmps ps assign body D .ready with state := .busy })) by rw [e2] at hb; exact hb) ?_⟩
    intro e a2 W2 hp
    cases e with
    | normal =>
      obtain ⟨hl2, hR⟩ := hp
      rw [e2] at hl2
      rw [e1] at hR
      exact ⟨_, _, run_endRound none hl2, hR⟩
    | ret => exact hp.elim
    | exit id => exact hp.elim
    | goto t => exact hp.elim
    | panic ch => exact hp.elim
    | outgrown => exact hp.elim
  | ret => exact hq.elim
  | exit id => exact hq.elim
  | goto t => exact hq.elim
  | panic ch => exact hq.elim
  | outgrown => exact hq.elim

/-- The statement, where no other loop's round is under way. -/
theorem rf_outer {g : Operand} {ps : Array Tmp} {assign body : Code} {Q : Exit → Act → World → Prop} {a : Act} {w : World} {gf : Nat} {lb : Array Value} (hg : a.eval g = .func (.func gf) #[] lb)
    (eg : ∀ args w, (callFunc gf args).run P w = .ok (.enter gf args) w)
    (h : ∀ (fn : FuncId) (RL : LoopState → Loop) (W : World), RecIs RL fn a.tmps ps assign body w.heap.size → W.heap[w.heap.size + 1]? = some (.loop (RL .ready)) → W.heap[w.heap.size]? = some (.deferred (some [])) → Below w.heap.size w W → W.heap.size = w.heap.size + 2 →
      Calls P gf (#[.func (.yield (w.heap.size + 1)) #[] #[]] ++ lb) W fun e W2 => (∃ v, e = .returned v) ∧ W2.heap[w.heap.size + 1]? = some (.loop (RL .ready)) ∧
        Q .normal { a with defers := { target := .collected w.heap.size, args := #[] } :: a.defers } (W2.putObj (w.heap.size + 1) (.loop (RL .exhausted)))) :
    (Code.rangeFunc g ps assign body).wp P Q a w := by
  refine (wpIn_wide (n := 0)).1 (wpIn_rangeFunc ?_)
  intro fn _
  obtain ⟨RL, hRL⟩ : ∃ RL, RecIs RL fn a.tmps ps assign body w.heap.size := ⟨recL fn a.tmps ps assign body w.heap.size, fun _ => rfl⟩
  have e1 := hRL .ready
  have e3 := hRL .exhausted
  obtain ⟨W1, hW1⟩ : ∃ W1, (w.alloc (.deferred (some []))).alloc (.loop (RL .ready)) = W1 := ⟨_, rfl⟩
  have hL1 : W1.heap[w.heap.size + 1]? = some (.loop (RL .ready)) := by
    rw [← hW1]; have := World.alloc_heap_new (w.alloc (.deferred (some []))) (.loop (RL .ready)); rwa [World.size_alloc] at this
  have hK1 : W1.heap[w.heap.size]? = some (.deferred (some [])) := by
    rw [← hW1]; exact (Below.heap_alloc _ _ _ (by simp)).trans (World.alloc_heap_new w _)
  have hb1 : Below w.heap.size w W1 := by
    rw [← hW1]; exact ((Below.refl _ w).alloc (Nat.le_refl _) _).alloc (by simp) _
  have hs1 : W1.heap.size = w.heap.size + 2 := by rw [← hW1]; simp
  refine ⟨w.heap.size + 1, [{ target := .collected w.heap.size, args := #[] }], W1, { target := .fn (.func gf) lb, args := #[.func (.yield (w.heap.size + 1)) #[] #[]] }, W1, gf,
    #[.func (.yield (w.heap.size + 1)) #[] #[]] ++ lb, W1, ?_, ?_, fun _ _ => trivial, ?_, fun q => (by cases q), ?_⟩
  · rw [← hW1, e1]; exact run_enterLoop_outer _ _ _ _ _
  · simp only [resolve, hg]
    simp [go_sem]
  · simp [invoke, go_sem, eg]
  · refine (callsIn_wide.2 (h fn RL W1 hRL hL1 hK1 hb1 hs1)).mono ?_
    rintro e W2 ⟨⟨v, rfl⟩, hl2, hQ⟩
    rw [e1] at hl2
    rw [e3] at hQ
    exact ⟨none, _, run_endLoop hl2 (by simp [recL]), hQ⟩

/-- The statement, in a round of another loop. -/
theorem rf_inner {g : Operand} {ps : Array Tmp} {assign body : Code} {Q : Exit → Act → World → Prop} {a : Act} {w : World} {n l0 : Nat} {r0 : Loop} (hl0 : w.heap[l0]? = some (.loop r0)) {gf : Nat} {lb : Array Value} (hg : a.eval g = .func (.func gf) #[] lb)
    (eg : ∀ args w, (callFunc gf args).run P w = .ok (.enter gf args) w)
    (h : ∀ (fn : FuncId) (RL : LoopState → Loop) (W : World), RecIs RL fn a.tmps ps assign body r0.defers → W.heap[w.heap.size]? = some (.loop (RL .ready)) → Below w.heap.size w W → W.heap.size = w.heap.size + 1 →
      Calls P gf (#[.func (.yield w.heap.size) #[] #[]] ++ lb) W fun e W2 => (∃ v, e = .returned v) ∧ W2.heap[w.heap.size]? = some (.loop (RL .ready)) ∧
        Q .normal a (W2.putObj w.heap.size (.loop (RL .exhausted)))) :
    (Code.rangeFunc g ps assign body).wpIn (Fence.wide.inRound l0) n P Q a w := by
  refine wpIn_rangeFunc ?_
  intro fn _
  obtain ⟨RL, hRL⟩ : ∃ RL, RecIs RL fn a.tmps ps assign body r0.defers := ⟨recL fn a.tmps ps assign body r0.defers, fun _ => rfl⟩
  have e1 := hRL .ready
  have e3 := hRL .exhausted
  obtain ⟨W1, hW1⟩ : ∃ W1, w.alloc (.loop (RL .ready)) = W1 := ⟨_, rfl⟩
  have hL1 : W1.heap[w.heap.size]? = some (.loop (RL .ready)) := by rw [← hW1]; exact World.alloc_heap_new w _
  have hb1 : Below w.heap.size w W1 := by rw [← hW1]; exact (Below.refl _ w).alloc (Nat.le_refl _) _
  have hs1 : W1.heap.size = w.heap.size + 1 := by rw [← hW1]; simp
  refine ⟨w.heap.size, [], W1, { target := .fn (.func gf) lb, args := #[.func (.yield w.heap.size) #[] #[]] }, W1, gf, #[.func (.yield w.heap.size) #[] #[]] ++ lb, W1, ?_, ?_, fun _ _ => trivial, ?_, fun q => (by cases q), ?_⟩
  · rw [← hW1, e1]; exact run_enterLoop_inner hl0 _ _ _ _ _
  · simp only [resolve, hg]
    simp [go_sem]
  · simp [invoke, go_sem, eg]
  · refine CallsIn.inRound l0 ((callsIn_wide.2 (h fn RL W1 hRL hL1 hb1 hs1)).mono ?_)
    rintro e W2 ⟨⟨v, rfl⟩, hl2, hQ⟩
    rw [e1] at hl2
    rw [e3] at hQ
    exact ⟨none, _, run_endLoop hl2 (by simp [recL]), hQ⟩
end

/-- A function that holds such a loop. -/
theorem calls_of_marks {P : Program} {f : FuncId} {fn : Func} {c : Code} {args : Array Value} {w : World} {R : Ending → World → Prop} (hf : P.funcs[f]? = some fn) (hb : fn.body = some c)
    (h : c.wp P (bodyPostM Fence.wide 0 P fn R) { tmps := args ++ Array.replicate (fn.ntmps - args.size) undef, defers := [] } w) : Calls P f args w R :=
  (callsIn_wide (n := 0)).1 (callsIn_of_wp_marks hf hb trivial (wpIn_wide.2 h) rfl)

/-- It returns, the mark behind it. -/
theorem ret_marks {P : Program} {fn : Func} {R : Ending → World → Prop} {tmps : Array Value} {D : Nat} {w : World} {v : Value} (hK : w.heap[D]? = some (.deferred (some [])))
    (hres : (results fn tmps).run P (w.putObj D (.deferred none)) = .ok v (w.putObj D (.deferred none))) (hR : R (.returned v) (w.putObj D (.deferred none))) :
    bodyPostM Fence.wide 0 P fn R .ret { tmps := tmps, defers := [{ target := .collected D, args := #[] }] } w :=
  ⟨by simp, .inl ⟨_, _, rfl, run_takeDeferred hK, ⟨v, hres, hR⟩⟩⟩

/-- Whatever is cells lies as it lay. -/
structure KeepC (w w' : World) : Prop where
  size : w.heap.size ≤ w'.heap.size
  same : ∀ (k : Nat) (C : Array Value) (T : TypeId) (f : Nat × Nat), w.heap[k]? = some (.cells C T f) → w'.heap[k]? = some (.cells C T f)

theorem KeepC.drew (w : World) : KeepC w w.drew := ⟨Nat.le_refl _, fun _ _ _ _ h => h⟩

theorem KeepC.refl (w : World) : KeepC w w := ⟨Nat.le_refl _, fun _ _ _ _ h => h⟩

theorem KeepC.trans {a b c : World} (h : KeepC a b) (k : KeepC b c) : KeepC a c := ⟨Nat.le_trans h.size k.size, fun q C T f hq => k.same q C T f (h.same q C T f hq)⟩

theorem KeepC.of {w w' : World} (h : Below w.heap.size w w') : KeepC w w' := ⟨h.size, fun k C T f hk => (h.block k (Array.getElem?_eq_some_iff.1 hk).1).trans hk⟩

theorem KeepC.putLoop {w : World} {l : Nat} {r : Loop} (o : Obj) (h : w.heap[l]? = some (.loop r)) : KeepC w (w.putObj l o) :=
  ⟨by simp, fun k C T f hk => by
    by_cases e : k = l
    · subst e; rw [h] at hk; cases hk
    · exact (World.putObj_heap_other e).trans hk⟩

theorem KeepC.putMark {w : World} {l : Nat} {d : Option (List Deferred)} (o : Obj) (h : w.heap[l]? = some (.deferred d)) : KeepC w (w.putObj l o) :=
  ⟨by simp, fun k C T f hk => by
    by_cases e : k = l
    · subst e; rw [h] at hk; cases hk
    · exact (World.putObj_heap_other e).trans hk⟩

theorem KeepC.cell {w w' : World} {p : Addr} {v : Value} (h : KeepC w w') (hc : w.cell? p = some v) : w'.cell? p = some v := by
  unfold World.cell? at hc ⊢
  cases ho : w.heap[p.block]? with
  | none => simp [ho] at hc
  | some o => cases o with
    | cells C T f => rw [h.same _ _ _ _ ho]; rw [ho] at hc; exact hc
    | _ => simp [ho] at hc

theorem KeepC.blk {w w' : World} {B : Nat} {T : TypeId} {C : Array Value} (h : KeepC w w') (hB : Blk w B T C) : Blk w' B T C := h.same _ _ _ _ hB

theorem KeepC.owns {w w' : World} {base sz n : Nat} {T : TypeId} {v : Value} {xs : List Value} (h : KeepC w w') (ho : w.ownsRow base T sz v n xs) : w'.ownsRow base T sz v n xs := by
  obtain ⟨h1, h2⟩ := ho
  refine ⟨h1, ?_⟩
  rcases h2 with h2 | ⟨g, cap, cur, e1, e2, e3, e4⟩
  · exact Or.inl h2
  · exact Or.inr ⟨g, cap, cur, e1, e2, h.same _ _ _ _ e3, e4⟩

theorem belowPut {n₀ l : Nat} {w : World} {o : Obj} (o' : Obj) (hl : n₀ ≤ l) (h : w.heap[l]? = some o) : Below n₀ w (w.putObj l o') :=
  (Below.refl n₀ w).grown (grownBy_putObj' w l o') (by have := (Array.getElem?_eq_some_iff.1 h).1; omega) (fun k e => by cases e; exact hl)

/-- A block of cells is no loop's record: what changes one leaves the other. -/
theorem loop_grown {w w' : World} {l g : Nat} {r : Loop} {T : TypeId} {C : Array Value} (h : w.heap[l]? = some (.loop r)) (hg : w.grownBy w' (some g)) (hB : Blk w g T C) : w'.heap[l]? = some (.loop r) := by
  refine (hg.block l (Array.getElem?_eq_some_iff.1 h).1 ?_).trans h
  intro e
  obtain rfl : l = g := by simpa using e
  have h2 : w.heap[l]? = some (.cells C T (0, 0)) := hB
  rw [h] at h2
  cases h2

theorem loop_below {w w' : World} {l : Nat} {o : Obj} (h : w.heap[l]? = some o) (hb : Below w.heap.size w w') : w'.heap[l]? = some o := (hb.block l (Array.getElem?_eq_some_iff.1 h).1).trans h

/-- An operation that yields a value, in a round. -/
theorem listIn_of {F : Fence} {n : Nat} {P : Program} {ops : Array Oper} {rest : List Oper} {o : Oper} {a : Act} {w w' : World} {Q : Exit → Act → World → Prop} {v : Value} (hw : Region.wanted o (yielded ops a.tmps) = true) (hnd : ∀ c, o.op ≠ .defer c) (hab : o.about P w a.eval = none)
    (hrun : (execOp a.eval o).run P w = .ok (.value v) w') (h : wpListIn F n P ops Q rest (a.put o.dst v) w') : wpListIn F n P ops Q (o :: rest) a w := by
  simp only [wpListIn, hw, if_true]
  unfold Oper.wpIn
  refine ⟨fun f hf => (by rw [hab] at hf; cases hf), ?_⟩
  rw [Oper.semAt_plain F _ _ hnd, hrun]
  exact h

/-- A whole struct or array is loaded, in a round. -/
theorem loadR {F : Fence} {n : Nat} {P : Program} {ops : Array Oper} {rest : List Oper} {o : Oper} {a : Act} {w : World} {Q : Exit → Act → World → Prop} {x : Operand} {B k : Nat} {T : TypeId} {C : Array Value} (t : TypeId) (X : Array Value) (hw : Region.wanted o (yielded ops a.tmps) = true) (ho : o.op = .load t x) (hx : a.eval x = .pointer (some ⟨B, k, none⟩)) (hB : Blk w B T C)
    (hu : (match P.underlying t with | some (.struct _) | some (.array _ _) => true | _ => false) = true) (hn : (P.info? t).map (·.size) = some X.size) (hX : (C.toList.drop k).take X.size = X.toList) (h : wpListIn F n P ops Q rest (a.put o.dst (.agg X)) w) : wpListIn F n P ops Q (o :: rest) a w :=
  listIn_of hw (by rw [ho]; intro c hc; cases hc) (by simp [Oper.about, ho]) (exec_load_blk t X ho hx hB hu hn hX) h

/-- A store into a block, in a round. -/
theorem storeR {F : Fence} {n : Nat} {P : Program} {ops : Array Oper} {rest : List Oper} {o : Oper} {a : Act} {w : World} {Q : Exit → Act → World → Prop} {p x : Operand} {B k : Nat} {T : TypeId} {C : Array Value} (t : TypeId) (v : Value) (C' : Array Value) (hw : Region.wanted o (yielded ops a.tmps) = true) (ho : o.op = .store t p x)
    (hp : a.eval p = .pointer (some ⟨B, k, none⟩)) (hx : a.eval x = v) (hB : Blk w B T C) (hn : (P.info? t).map (·.size) = some v.cells.size) (hk : k + v.cells.toList.length ≤ C.size) (h1 : v.cells.toList.all (·.oneCell') = true)
    (hC : (C.toList.take k ++ v.cells.toList ++ C.toList.drop (k + v.cells.toList.length)).toArray = C')
    (h : ∀ w', Blk w' B T C' → Below B w w' → w.grownBy w' (some B) → wpListIn F n P ops Q rest (a.put o.dst undef) w') : wpListIn F n P ops Q (o :: rest) a w := by
  have h3 := run_store_blk (P := P) w B k T t C C' v hB hn hk h1 hC
  have hbl : Below B w (w.setRow B C') := below_setRow (Below.refl _ _) (Nat.le_refl _) _
  have hg : w.grownBy (w.setRow B C') (some B) := ⟨rfl, rfl, rfl, by simp, fun j _ hj => setRow_other w B j C' (by intro e; subst e; exact hj rfl)⟩
  simp only [wpListIn, hw, if_true]
  unfold Oper.wpIn
  refine ⟨fun f hf => (by simp [Oper.about, ho] at hf), ?_⟩
  rw [Oper.semAt_plain F _ _ (by rw [ho]; intro c hc; cases hc)]
  unfold execOp
  simp only [ho, hp, hx, Instr.storeAt, Instr.sureAddr, Sem.run_bind, Sem.run_pure, Result.andThen_ok, h3]
  exact h _ (hB.setRow C') hbl hg

/-- A slice literal of one, in a round. -/
theorem sliceR {F : Fence} {n : Nat} {P : Program} {ops : Array Oper} {rest : List Oper} {o : Oper} {a : Act} {w : World} {Q : Exit → Act → World → Prop} (t e : TypeId) (len : Nat) (parts : Array (Nat × Operand)) (hw : Region.wanted o (yielded ops a.tmps) = true) (ho : o.op = .buildSlice t len parts)
    (cells : Array Value) (ie : TypeInfo) (z : Value) (hu : P.underlying t = some (.slice e)) (hie : P.info? e = some ie) (hz : ie.zero = some z) (hsmall : ¬ len * ie.size > 2 ^ 24) (hpos : ¬ len * ie.size = 0)
    (hf : Instr.fill (fun i => some (i * ie.size, ie.size)) ((Array.range (len * ie.size)).map (z.cells[· % z.cells.size]!)) (parts.map fun (i, x) => (i, a.eval x)).toList = some cells)
    (h : wpListIn F n P ops Q rest (a.put o.dst (.slice (some ⟨w.heap.size, 0, none⟩) len len)) (w.alloc (.cells cells e))) : wpListIn F n P ops Q (o :: rest) a w :=
  listIn_of hw (by rw [ho]; intro c hc; cases hc) (by simp [Oper.about, ho]) (by
    unfold execOp
    simp only [ho, Sem.run_bind, run_buildSlice w t e len _ cells ie z hu hie hz hsmall hpos hf, Result.andThen_ok]
    rfl) h

end Go.Proofs.YtdjljnpbnhampaaDoor
