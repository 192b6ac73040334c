/- Texts one behind the other. A range over a function: a round by its body's walk, the statement by its iterator's call. slices.Chunk of ints, three at a time. strings.Builder at this program: its check, and WriteString. strings.Builder: what a text written leaves as it was, of whatever kind. wire.Must of a number that fits. A Builder elsewhere is as it was. mvrp.join, attrText: an attribute as bytes. switchyardlaw.placed: an error that is this one, at this place. (apart: ErrAs, ErrAs.below, ErrAs.nil) mvrp.Write at every list of attributes. Are attributes the same? Are attributes the same, says the reference? -/
import Derived.RangeFuncNested
import Derived.RangeFuncCalls
import Derived.RangeFuncBox
import Derived.RangeFuncLeaves
import Derived.OwnWalkIn
import Derived.TacticsInMore
import Derived.LoopIn
import Derived.Great.BuildSlice
import Derived.Test.YtdjljnpbnhampaaDoorBlk
import Derived.Test.YtdjljnpbnhampaaDoorIvS
import Derived.Deep.RegionHeld3
import Derived.Test.YtdjljnpbnhampaaDoorShelf
import Derived.WalkKit
import Derived.Below
import Derived.Lib.Hide
import Derived.OrdersHeld
import Derived.WalkSpells
import Derived.WalkLawsBesides
import Derived.Shelf.Strings.Builder1
import Derived.Test.YtdjljnpbnhampaaDoorBy
import Derived.Test.YtdjljnpbnhampaaDoorPut
import Derived.Test.YtdjljnpbnhampaaDoorMvRight
import Derived.Test.YtdjljnpbnhampaaDoorMvBackM
import Derived.Test.YtdjljnpbnhampaaDoorFlt
namespace Go.Proofs.YtdjljnpbnhampaaDoor
open Go.RowKit
set_option linter.unusedVariables false

/-- The loop's record. -/
def recL (fn : FuncId) (tmps : Array Value) (ps : Array Tmp) (assign body : Code) (D : Nat) (st : LoopState) : Loop := { state := st, pending := none, fn, tmps, params := ps, assign, body, defers := D }

/-- The records of one loop, by its state. -/
def RecIs (RL : LoopState → Loop) (fn : FuncId) (tmps : Array Value) (ps : Array Tmp) (assign body : Code) (D : Nat) : Prop := ∀ st, RL st = recL fn tmps ps assign body D st

/-- How a round's body is left here: off its end. -/
def bodyR (l : Nat) (RL : LoopState → Loop) (R : Ending → World → Prop) : Exit → Act → World → Prop
  | .normal, _, W => W.heap[l]? = some (.loop (RL .busy)) ∧ R (.returned (.bool true)) (W.putObj l (.loop (RL .ready)))
  | _, _, _ => False

section
variable {P : Program}

theorem yield_of {n l : Nat} {RL : LoopState → Loop} {fn : FuncId} {tmps : Array Value} {ps : Array Tmp} {assign body : Code} {D : Nat} (hRL : RecIs RL fn tmps ps assign body D) {args : Array Value} {W : World} {R : Ending → World → Prop} (hl : W.heap[l]? = some (.loop (RL .ready))) (hs : args.size = ps.size)
    (h : assign.wpIn (Fence.wide.inRound l) n P (Exit.then (fun a1 W1 => W1.heap[l]? = some (.loop (RL .ready)) ∧ body.wpIn (Fence.wide.inRound l) n P (bodyR l RL R) a1 (W1.putObj l (.loop (RL .busy)))) (fun _ _ _ => False))
      { tmps := (ps.zip args).foldl (fun t (p, v) => t.setIfInBounds p v) tmps, defers := [] } W) : YieldAt Fence.wide n P l args W R := by
  have e1 := hRL .ready
  have e2 := hRL .busy
  have hy := run_yield (P := P) (args := args) hl (by rw [e1]; exact hs)
  rw [e1] at hy
  refine ⟨fn, _, assign, body, hy, roundIn_of_wpIn trivial (wpIn_mono h ?_)⟩
  intro e a1 W1 hq
  cases e with
  | normal =>
    obtain ⟨hl1, hb⟩ := hq
    rw [e1] at hl1
    have hbr := run_beginRound (P := P) hl1 rfl
    refine ⟨_, hbr, wpIn_mono (show body.wpIn (Fence.wide.inRound l) n P (bodyR l RL R) a1 (W1.putObj l (.loop { recL fn tmps ps assign body D .ready with state := .busy })) by rw [e2] at hb; exact hb) ?_⟩
    intro e a2 W2 hp
    cases e with
    | normal =>
      obtain ⟨hl2, hR⟩ := hp
      rw [e2] at hl2
      rw [e1] at hR
      exact ⟨_, _, run_endRound none hl2, hR⟩
    | ret => exact hp.elim
    | exit id => exact hp.elim
    | goto t => exact hp.elim
    | panic ch => exact hp.elim
    | outgrown => exact hp.elim
  | ret => exact hq.elim
  | exit id => exact hq.elim
  | goto t => exact hq.elim
  | panic ch => exact hq.elim
  | outgrown => exact hq.elim

/-- The statement, where no other loop's round is under way. -/
theorem rf_outer {g : Operand} {ps : Array Tmp} {assign body : Code} {Q : Exit → Act → World → Prop} {a : Act} {w : World} {gf : Nat} {lb : Array Value} (hg : a.eval g = .func (.func gf) #[] lb)
    (eg : ∀ args w, (callFunc gf args).run P w = .ok (.enter gf args) w)
    (h : ∀ (fn : FuncId) (RL : LoopState → Loop) (W : World), RecIs RL fn a.tmps ps assign body w.heap.size → W.heap[w.heap.size + 1]? = some (.loop (RL .ready)) → W.heap[w.heap.size]? = some (.deferred (some [])) → Below w.heap.size w W → W.heap.size = w.heap.size + 2 →
      Calls P gf (#[.func (.yield (w.heap.size + 1)) #[] #[]] ++ lb) W fun e W2 => (∃ v, e = .returned v) ∧ W2.heap[w.heap.size + 1]? = some (.loop (RL .ready)) ∧
        Q .normal { a with defers := { target := .collected w.heap.size, args := #[] } :: a.defers } (W2.putObj (w.heap.size + 1) (.loop (RL .exhausted)))) :
    (Code.rangeFunc g ps assign body).wp P Q a w := by
  refine (wpIn_wide (n := 0)).1 (wpIn_rangeFunc ?_)
  intro fn _
  obtain ⟨RL, hRL⟩ : ∃ RL, RecIs RL fn a.tmps ps assign body w.heap.size := ⟨recL fn a.tmps ps assign body w.heap.size, fun _ => rfl⟩
  have e1 := hRL .ready
  have e3 := hRL .exhausted
  obtain ⟨W1, hW1⟩ : ∃ W1, (w.alloc (.deferred (some []))).alloc (.loop (RL .ready)) = W1 := ⟨_, rfl⟩
  have hL1 : W1.heap[w.heap.size + 1]? = some (.loop (RL .ready)) := by
    rw [← hW1]; have := World.alloc_heap_new (w.alloc (.deferred (some []))) (.loop (RL .ready)); rwa [World.size_alloc] at this
  have hK1 : W1.heap[w.heap.size]? = some (.deferred (some [])) := by
    rw [← hW1]; exact (Below.heap_alloc _ _ _ (by simp)).trans (World.alloc_heap_new w _)
  have hb1 : Below w.heap.size w W1 := by
    rw [← hW1]; exact ((Below.refl _ w).alloc (Nat.le_refl _) _).alloc (by simp) _
  have hs1 : W1.heap.size = w.heap.size + 2 := by rw [← hW1]; simp
  refine ⟨w.heap.size + 1, [{ target := .collected w.heap.size, args := #[] }], W1, { target := .fn (.func gf) lb, args := #[.func (.yield (w.heap.size + 1)) #[] #[]] }, W1, gf,
    #[.func (.yield (w.heap.size + 1)) #[] #[]] ++ lb, W1, ?_, ?_, fun _ _ => trivial, ?_, fun q => (by cases q), ?_⟩
  · rw [← hW1, e1]; exact run_enterLoop_outer _ _ _ _ _
  · simp only [resolve, hg]
    simp [go_sem]
  · simp [invoke, go_sem, eg]
  · refine (callsIn_wide.2 (h fn RL W1 hRL hL1 hK1 hb1 hs1)).mono ?_
    rintro e W2 ⟨⟨v, rfl⟩, hl2, hQ⟩
    rw [e1] at hl2
    rw [e3] at hQ
    exact ⟨none, _, run_endLoop hl2 (by simp [recL]), hQ⟩

/-- The statement, in a round of another loop. -/
theorem rf_inner {g : Operand} {ps : Array Tmp} {assign body : Code} {Q : Exit → Act → World → Prop} {a : Act} {w : World} {n l0 : Nat} {r0 : Loop} (hl0 : w.heap[l0]? = some (.loop r0)) {gf : Nat} {lb : Array Value} (hg : a.eval g = .func (.func gf) #[] lb)
    (eg : ∀ args w, (callFunc gf args).run P w = .ok (.enter gf args) w)
    (h : ∀ (fn : FuncId) (RL : LoopState → Loop) (W : World), RecIs RL fn a.tmps ps assign body r0.defers → W.heap[w.heap.size]? = some (.loop (RL .ready)) → Below w.heap.size w W → W.heap.size = w.heap.size + 1 →
      Calls P gf (#[.func (.yield w.heap.size) #[] #[]] ++ lb) W fun e W2 => (∃ v, e = .returned v) ∧ W2.heap[w.heap.size]? = some (.loop (RL .ready)) ∧
        Q .normal a (W2.putObj w.heap.size (.loop (RL .exhausted)))) :
    (Code.rangeFunc g ps assign body).wpIn (Fence.wide.inRound l0) n P Q a w := by
  refine wpIn_rangeFunc ?_
  intro fn _
  obtain ⟨RL, hRL⟩ : ∃ RL, RecIs RL fn a.tmps ps assign body r0.defers := ⟨recL fn a.tmps ps assign body r0.defers, fun _ => rfl⟩
  have e1 := hRL .ready
  have e3 := hRL .exhausted
  obtain ⟨W1, hW1⟩ : ∃ W1, w.alloc (.loop (RL .ready)) = W1 := ⟨_, rfl⟩
  have hL1 : W1.heap[w.heap.size]? = some (.loop (RL .ready)) := by rw [← hW1]; exact World.alloc_heap_new w _
  have hb1 : Below w.heap.size w W1 := by rw [← hW1]; exact (Below.refl _ w).alloc (Nat.le_refl _) _
  have hs1 : W1.heap.size = w.heap.size + 1 := by rw [← hW1]; simp
  refine ⟨w.heap.size, [], W1, { target := .fn (.func gf) lb, args := #[.func (.yield w.heap.size) #[] #[]] }, W1, gf, #[.func (.yield w.heap.size) #[] #[]] ++ lb, W1, ?_, ?_, fun _ _ => trivial, ?_, fun q => (by cases q), ?_⟩
  · rw [← hW1, e1]; exact run_enterLoop_inner hl0 _ _ _ _ _
  · simp only [resolve, hg]
    simp [go_sem]
  · simp [invoke, go_sem, eg]
  · refine CallsIn.inRound l0 ((callsIn_wide.2 (h fn RL W1 hRL hL1 hb1 hs1)).mono ?_)
    rintro e W2 ⟨⟨v, rfl⟩, hl2, hQ⟩
    rw [e1] at hl2
    rw [e3] at hQ
    exact ⟨none, _, run_endLoop hl2 (by simp [recL]), hQ⟩
end

/-- A function that holds such a loop. -/
theorem calls_of_marks {P : Program} {f : FuncId} {fn : Func} {c : Code} {args : Array Value} {w : World} {R : Ending → World → Prop} (hf : P.funcs[f]? = some fn) (hb : fn.body = some c)
    (h : c.wp P (bodyPostM Fence.wide 0 P fn R) { tmps := args ++ Array.replicate (fn.ntmps - args.size) undef, defers := [] } w) : Calls P f args w R :=
  (callsIn_wide (n := 0)).1 (callsIn_of_wp_marks hf hb trivial (wpIn_wide.2 h) rfl)

/-- It returns, the mark behind it. -/
theorem ret_marks {P : Program} {fn : Func} {R : Ending → World → Prop} {tmps : Array Value} {D : Nat} {w : World} {v : Value} (hK : w.heap[D]? = some (.deferred (some [])))
    (hres : (results fn tmps).run P (w.putObj D (.deferred none)) = .ok v (w.putObj D (.deferred none))) (hR : R (.returned v) (w.putObj D (.deferred none))) :
    bodyPostM Fence.wide 0 P fn R .ret { tmps := tmps, defers := [{ target := .collected D, args := #[] }] } w :=
  ⟨by simp, .inl ⟨_, _, rfl, run_takeDeferred hK, ⟨v, hres, hR⟩⟩⟩

/-- Whatever is cells lies as it lay. -/
structure KeepC (w w' : World) : Prop where
  size : w.heap.size ≤ w'.heap.size
  same : ∀ (k : Nat) (C : Array Value) (T : TypeId) (f : Nat × Nat), w.heap[k]? = some (.cells C T f) → w'.heap[k]? = some (.cells C T f)

theorem KeepC.drew (w : World) : KeepC w w.drew := ⟨Nat.le_refl _, fun _ _ _ _ h => h⟩

theorem KeepC.refl (w : World) : KeepC w w := ⟨Nat.le_refl _, fun _ _ _ _ h => h⟩

theorem KeepC.trans {a b c : World} (h : KeepC a b) (k : KeepC b c) : KeepC a c := ⟨Nat.le_trans h.size k.size, fun q C T f hq => k.same q C T f (h.same q C T f hq)⟩

theorem KeepC.of {w w' : World} (h : Below w.heap.size w w') : KeepC w w' := ⟨h.size, fun k C T f hk => (h.block k (Array.getElem?_eq_some_iff.1 hk).1).trans hk⟩

theorem KeepC.putLoop {w : World} {l : Nat} {r : Loop} (o : Obj) (h : w.heap[l]? = some (.loop r)) : KeepC w (w.putObj l o) :=
  ⟨by simp, fun k C T f hk => by
    by_cases e : k = l
    · subst e; rw [h] at hk; cases hk
    · exact (World.putObj_heap_other e).trans hk⟩

theorem KeepC.putMark {w : World} {l : Nat} {d : Option (List Deferred)} (o : Obj) (h : w.heap[l]? = some (.deferred d)) : KeepC w (w.putObj l o) :=
  ⟨by simp, fun k C T f hk => by
    by_cases e : k = l
    · subst e; rw [h] at hk; cases hk
    · exact (World.putObj_heap_other e).trans hk⟩

theorem KeepC.cell {w w' : World} {p : Addr} {v : Value} (h : KeepC w w') (hc : w.cell? p = some v) : w'.cell? p = some v := by
  unfold World.cell? at hc ⊢
  cases ho : w.heap[p.block]? with
  | none => simp [ho] at hc
  | some o => cases o with
    | cells C T f => rw [h.same _ _ _ _ ho]; rw [ho] at hc; exact hc
    | _ => simp [ho] at hc

theorem KeepC.blk {w w' : World} {B : Nat} {T : TypeId} {C : Array Value} (h : KeepC w w') (hB : Blk w B T C) : Blk w' B T C := h.same _ _ _ _ hB

theorem KeepC.owns {w w' : World} {base sz n : Nat} {T : TypeId} {v : Value} {xs : List Value} (h : KeepC w w') (ho : w.ownsRow base T sz v n xs) : w'.ownsRow base T sz v n xs := by
  obtain ⟨h1, h2⟩ := ho
  refine ⟨h1, ?_⟩
  rcases h2 with h2 | ⟨g, cap, cur, e1, e2, e3, e4⟩
  · exact Or.inl h2
  · exact Or.inr ⟨g, cap, cur, e1, e2, h.same _ _ _ _ e3, e4⟩

theorem belowPut {n₀ l : Nat} {w : World} {o : Obj} (o' : Obj) (hl : n₀ ≤ l) (h : w.heap[l]? = some o) : Below n₀ w (w.putObj l o') :=
  (Below.refl n₀ w).grown (grownBy_putObj' w l o') (by have := (Array.getElem?_eq_some_iff.1 h).1; omega) (fun k e => by cases e; exact hl)

/-- A block of cells is no loop's record: what changes one leaves the other. -/
theorem loop_grown {w w' : World} {l g : Nat} {r : Loop} {T : TypeId} {C : Array Value} (h : w.heap[l]? = some (.loop r)) (hg : w.grownBy w' (some g)) (hB : Blk w g T C) : w'.heap[l]? = some (.loop r) := by
  refine (hg.block l (Array.getElem?_eq_some_iff.1 h).1 ?_).trans h
  intro e
  obtain rfl : l = g := by simpa using e
  have h2 : w.heap[l]? = some (.cells C T (0, 0)) := hB
  rw [h] at h2
  cases h2

theorem loop_below {w w' : World} {l : Nat} {o : Obj} (h : w.heap[l]? = some o) (hb : Below w.heap.size w w') : w'.heap[l]? = some o := (hb.block l (Array.getElem?_eq_some_iff.1 h).1).trans h

/-- An operation that yields a value, in a round. -/
theorem listIn_of {F : Fence} {n : Nat} {P : Program} {ops : Array Oper} {rest : List Oper} {o : Oper} {a : Act} {w w' : World} {Q : Exit → Act → World → Prop} {v : Value} (hw : Region.wanted o (yielded ops a.tmps) = true) (hnd : ∀ c, o.op ≠ .defer c) (hab : o.about P w a.eval = none)
    (hrun : (execOp a.eval o).run P w = .ok (.value v) w') (h : wpListIn F n P ops Q rest (a.put o.dst v) w') : wpListIn F n P ops Q (o :: rest) a w := by
  simp only [wpListIn, hw, if_true]
  unfold Oper.wpIn
  refine ⟨fun f hf => (by rw [hab] at hf; cases hf), ?_⟩
  rw [Oper.semAt_plain F _ _ hnd, hrun]
  exact h

/-- A whole struct or array is loaded, in a round. -/
theorem loadR {F : Fence} {n : Nat} {P : Program} {ops : Array Oper} {rest : List Oper} {o : Oper} {a : Act} {w : World} {Q : Exit → Act → World → Prop} {x : Operand} {B k : Nat} {T : TypeId} {C : Array Value} (t : TypeId) (X : Array Value) (hw : Region.wanted o (yielded ops a.tmps) = true) (ho : o.op = .load t x) (hx : a.eval x = .pointer (some ⟨B, k, none⟩)) (hB : Blk w B T C)
    (hu : (match P.underlying t with | some (.struct _) | some (.array _ _) => true | _ => false) = true) (hn : (P.info? t).map (·.size) = some X.size) (hX : (C.toList.drop k).take X.size = X.toList) (h : wpListIn F n P ops Q rest (a.put o.dst (.agg X)) w) : wpListIn F n P ops Q (o :: rest) a w :=
  listIn_of hw (by rw [ho]; intro c hc; cases hc) (by simp [Oper.about, ho]) (exec_load_blk t X ho hx hB hu hn hX) h

/-- A store into a block, in a round. -/
theorem storeR {F : Fence} {n : Nat} {P : Program} {ops : Array Oper} {rest : List Oper} {o : Oper} {a : Act} {w : World} {Q : Exit → Act → World → Prop} {p x : Operand} {B k : Nat} {T : TypeId} {C : Array Value} (t : TypeId) (v : Value) (C' : Array Value) (hw : Region.wanted o (yielded ops a.tmps) = true) (ho : o.op = .store t p x)
    (hp : a.eval p = .pointer (some ⟨B, k, none⟩)) (hx : a.eval x = v) (hB : Blk w B T C) (hn : (P.info? t).map (·.size) = some v.cells.size) (hk : k + v.cells.toList.length ≤ C.size) (h1 : v.cells.toList.all (·.oneCell') = true)
    (hC : (C.toList.take k ++ v.cells.toList ++ C.toList.drop (k + v.cells.toList.length)).toArray = C')
    (h : ∀ w', Blk w' B T C' → Below B w w' → w.grownBy w' (some B) → wpListIn F n P ops Q rest (a.put o.dst undef) w') : wpListIn F n P ops Q (o :: rest) a w := by
  have h3 := run_store_blk (P := P) w B k T t C C' v hB hn hk h1 hC
  have hbl : Below B w (w.setRow B C') := below_setRow (Below.refl _ _) (Nat.le_refl _) _
  have hg : w.grownBy (w.setRow B C') (some B) := ⟨rfl, rfl, rfl, by simp, fun j _ hj => setRow_other w B j C' (by intro e; subst e; exact hj rfl)⟩
  simp only [wpListIn, hw, if_true]
  unfold Oper.wpIn
  refine ⟨fun f hf => (by simp [Oper.about, ho] at hf), ?_⟩
  rw [Oper.semAt_plain F _ _ (by rw [ho]; intro c hc; cases hc)]
  unfold execOp
  simp only [ho, hp, hx, Instr.storeAt, Instr.sureAddr, Sem.run_bind, Sem.run_pure, Result.andThen_ok, h3]
  exact h _ (hB.setRow C') hbl hg

/-- A slice literal of one, in a round. -/
theorem sliceR {F : Fence} {n : Nat} {P : Program} {ops : Array Oper} {rest : List Oper} {o : Oper} {a : Act} {w : World} {Q : Exit → Act → World → Prop} (t e : TypeId) (len : Nat) (parts : Array (Nat × Operand)) (hw : Region.wanted o (yielded ops a.tmps) = true) (ho : o.op = .buildSlice t len parts)
    (cells : Array Value) (ie : TypeInfo) (z : Value) (hu : P.underlying t = some (.slice e)) (hie : P.info? e = some ie) (hz : ie.zero = some z) (hsmall : ¬ len * ie.size > 2 ^ 24) (hpos : ¬ len * ie.size = 0)
    (hf : Instr.fill (fun i => some (i * ie.size, ie.size)) ((Array.range (len * ie.size)).map (z.cells[· % z.cells.size]!)) (parts.map fun (i, x) => (i, a.eval x)).toList = some cells)
    (h : wpListIn F n P ops Q rest (a.put o.dst (.slice (some ⟨w.heap.size, 0, none⟩) len len)) (w.alloc (.cells cells e))) : wpListIn F n P ops Q (o :: rest) a w :=
  listIn_of hw (by rw [ho]; intro c hc; cases hc) (by simp [Oper.about, ho]) (by
    unfold execOp
    simp only [ho, Sem.run_bind, run_buildSlice w t e len _ cells ie z hu hie hz hsmall hpos hf, Result.andThen_ok]
    rfl) h

end Go.Proofs.YtdjljnpbnhampaaDoor

namespace Go.Proofs.YtdjljnpbnhampaaDoor
open Go.RowKit
attribute [local go_sem ↓] Go.wp_at_zero Go.wp_at_succ
set_option linter.unusedSimpArgs false
set_option linter.unusedVariables false
set_option maxRecDepth 100000

theorem chunk_any (a : Option Addr) (n c : Nat) (w : World) :
    Calls Tryd.prog 113 #[.slice a n c, .int .i64 3] w fun e w' => e = .returned (.func (.func 124) #[] #[.pointer (some ⟨w.heap.size, 0, none⟩), .pointer (some ⟨w.heap.size + 1, 0, none⟩)]) ∧
      Blk w' w.heap.size 90 #[.slice a n c] ∧ Blk w' (w.heap.size + 1) 3 #[.int .i64 3] ∧ Below w.heap.size w w' ∧ w'.heap.size = w.heap.size + 2 := by
  have hmf : ∀ (fn : Fn) (first cap : Array Value) (w : World), (Instr.makeFunc fn first cap).run Tryd.prog w = .ok (.func fn first cap) w := fun _ _ _ _ => rfl
  have h1 := (Blk.new w 90 #[.slice a n c]).alloc (.cells #[.int .i64 3] 3)
  have h2 := Blk.new (w.alloc (.cells #[.slice a n c] 90)) 3 #[.int .i64 3]
  rw [World.size_alloc] at h2
  have b : Below w.heap.size w ((w.alloc (.cells #[.slice a n c] 90)).alloc (.cells #[.int .i64 3] 3)) := ((Below.refl _ _).alloc (Nat.le_refl _) _).alloc (by simp) _
  go_enter Tryd.func113, Tryd.ntmps113
  go_wp2
  go_ret
  exact ⟨rfl, h1, h2, b, by simp⟩

set_option maxHeartbeats 3200000 in
/-- The iterator, whatever the loop's body does that leaves both boxes as they are. -/
theorem chunk_it (l b1 b2 b o n c : Nat) (hn : n ≤ 100000) (J : Nat → World → Prop)
    (hb1 : ∀ k W, J k W → Blk W b1 90 #[.slice (some ⟨b, o, none⟩) n c]) (hb2 : ∀ k W, J k W → Blk W b2 3 #[.int .i64 3]) (hd : ∀ k W, J k W → J k W.drew) (hc : n ≤ c)
    (hY : ∀ k W, J k W → 3 * k < n → YieldAt Fence.wide 0 Tryd.prog l #[.slice (some ⟨b, o + 3 * k, none⟩) (min 3 (n - 3 * k)) (min 3 (n - 3 * k))] W fun e W' => e = .returned (.bool true) ∧ J (k + 1) W')
    (w : World) (h0 : J 0 w) :
    Calls Tryd.prog 124 #[.func (.yield l) #[] #[], .pointer (some ⟨b1, 0, none⟩), .pointer (some ⟨b2, 0, none⟩)] w fun e w' => (∃ v, e = .returned v) ∧ J ((n + 2) / 3) w' := by
  go_enter Tryd.func124, Tryd.ntmps124
  go_wp2_with fail
  go_loopw [4] (fun i wr => ∃ k : Nat, 3 * k < n + 3 ∧ i = .int .i64 (3 * k : Nat) ∧ J k wr) (fun i _ => n + 3 - (intOf i).toNat)
  case atStart => exact ⟨0, by omega, rfl, h0⟩
  case round =>
    obtain ⟨k, hk, rfl, HJ⟩ := hrel
    have H1 := hb1 k _ HJ
    have H2 := hb2 k _ HJ
    have c1 := H1.cv 0 (.slice (some ⟨b, o, none⟩) n c) rfl
    have c2 := H2.cv 0 (.int .i64 3) rfl
    obtain ⟨K, hK⟩ : ∃ K : Nat, 3 * k = K := ⟨_, rfl⟩
    by_cases hlt : K < n
    · have q1 : (K : Int) < (n : Int) := by omega
      have q2 : decide ((K : Int) < (n : Int)) = true := decide_eq_true q1
      obtain ⟨m, hm⟩ : ∃ m : Nat, min 3 (n - K) = m := ⟨_, rfl⟩
      have q3 : IntKind.i64.wrap ((K : Int) + (m : Int)) = ((K + m : Nat) : Int) := by rw [IntKind.wrap_i64] <;> omega
      have q4 : IntKind.i64.wrap ((K : Int) + 3) = ((3 * (k + 1) : Nat) : Int) := by rw [IntKind.wrap_i64] <;> omega
      have HY := hY k _ (hd k _ HJ) (by omega)
      rw [hK, hm] at HY
      rw [hK]
      have q5 : (n : Int) - (K : Int) = ((n - K : Nat) : Int) := by omega
      have hm0 : 0 < m := by omega
      have hle : K ≤ n := by omega
      have hmi : (if ((n - K : Nat) : Int) < 3 then ((n - K : Nat) : Int) else 3) = (m : Int) := by split <;> omega
      have hne : ¬ c = K := by omega
      have hmn : K + m ≤ n := by omega
      clear hY h0 hk
      go_wp2_with fail
      go_upto_region 3 with (fail)
      refine wp_region_noPanic ?_
      refine wp_region_held_drew (S := (fun w' => Blk w' b1 90 #[.slice (some ⟨b, o, none⟩) n c] ∧ Blk w' b2 3 #[.int .i64 3])) (by kernel_rfl) ?_ (fun hHeld => ?_)
      · exact ⟨H1, H2⟩
      refine wpAnyH_take (i := 0) (v := .int .i64 3) rfl (by kernel_rfl) (by kernel_rfl) (by kernel_rfl) (fun _ _ _ h => h) (Or.inl ⟨by rfl, fun w hSw => by have c := hSw.2.cv 0 (.int .i64 3) rfl; go_simp⟩) (by assumption) ?_
      (try simp only [Act.put, List.getElem_toArray, List.getElem_cons_zero, List.getElem_cons_succ, List.setIfInBounds_toArray, List.set_cons_zero, List.set_cons_succ])
      refine wpAnyH_take (i := 1) (v := .slice (some ⟨b, o, none⟩) n c) rfl (by kernel_rfl) (by kernel_rfl) (by kernel_rfl) (fun _ _ _ h => h) (Or.inl ⟨by rfl, fun w hSw => by have c := hSw.1.cv 0 (.slice (some ⟨b, o, none⟩) n c) rfl; go_simp⟩) (by assumption) ?_
      (try simp only [Act.put, List.getElem_toArray, List.getElem_cons_zero, List.getElem_cons_succ, List.setIfInBounds_toArray, List.set_cons_zero, List.set_cons_succ])
      refine wpAnyH_take (i := 2) (v := ?_) rfl (by kernel_rfl) (by kernel_rfl) (by kernel_rfl) (fun _ _ _ h => h) (Or.inl ⟨by rfl, ?_⟩) (by assumption) ?_
      rotate_left
      · (intro w hSw; (try dsimp only at hSw); go_simp; (try with_reducible rfl))
      (try simp only [Act.put, List.getElem_toArray, List.getElem_cons_zero, List.getElem_cons_succ, List.setIfInBounds_toArray, List.set_cons_zero, List.set_cons_succ])
      refine wpAnyH_take (i := 3) (v := .slice (some ⟨b, o + K, none⟩) (n - K) (c - K)) rfl (by kernel_rfl) (by kernel_rfl) (by kernel_rfl) (fun _ _ _ h => h) (Or.inl ⟨by rfl, fun w hSw => by go_simp⟩) (by assumption) ?_
      (try simp only [Act.put, List.getElem_toArray, List.getElem_cons_zero, List.getElem_cons_succ, List.setIfInBounds_toArray, List.set_cons_zero, List.set_cons_succ])
      refine wpAnyH_take (i := 4) (v := ?_) rfl (by kernel_rfl) (by kernel_rfl) (by kernel_rfl) (fun _ _ _ h => h) (Or.inl ⟨by rfl, ?_⟩) (by assumption) ?_
      rotate_left
      · (intro w hSw; (try dsimp only at hSw); go_simp; (try with_reducible rfl))
      (try simp only [Act.put, List.getElem_toArray, List.getElem_cons_zero, List.getElem_cons_succ, List.setIfInBounds_toArray, List.set_cons_zero, List.set_cons_succ])
      refine wpAnyH_take (i := 5) (v := .int .i64 (m : Int)) rfl (by kernel_rfl) (by kernel_rfl) (by kernel_rfl) (fun _ _ _ h => h) (Or.inl ⟨by rfl, fun w hSw => by go_simp⟩) (by assumption) ?_
      (try simp only [Act.put, List.getElem_toArray, List.getElem_cons_zero, List.getElem_cons_succ, List.setIfInBounds_toArray, List.set_cons_zero, List.set_cons_succ])
      refine wpAnyH_take (i := 6) (v := ?_) rfl (by kernel_rfl) (by kernel_rfl) (by kernel_rfl) (fun _ _ _ h => h) (Or.inl ⟨by rfl, ?_⟩) (by assumption) ?_
      rotate_left
      · (intro w hSw; (try dsimp only at hSw); go_simp; (try with_reducible rfl))
      (try simp only [Act.put, List.getElem_toArray, List.getElem_cons_zero, List.getElem_cons_succ, List.setIfInBounds_toArray, List.set_cons_zero, List.set_cons_succ])
      refine wpAnyH_done (by kernel_rfl) ?_ _
      refine NoPanic.normal ?_
      have d1 := H1.drew.cv 0 (.slice (some ⟨b, o, none⟩) n c) rfl
      clear H1 H2 c1 c2
      go_upto_region 4 with (fail)
      refine (wpIn_wide (n := 0)).1 ?_
      obtain ⟨fn, tmps, assign, body, hy, hR⟩ := HY
      gi_wp2
      refine ⟨rfl, hR.mono ?_⟩
      rintro e W3 ⟨rfl, HJ3⟩
      have H3 := hb2 _ _ HJ3
      have c3 := H3.cv 0 (.int .i64 3) rfl
      gi_wp2
      go_wp2
      go_roundw
      case rel => exact ⟨k + 1, by omega, rfl, HJ3⟩
      case measure => simp [intOf]; omega
    · have q2 : decide ((K : Int) < (n : Int)) = false := decide_eq_false (by omega)
      obtain rfl : k = (n + 2) / 3 := by omega
      rw [hK]
      go_wp2
      go_end0
      exact ⟨⟨_, rfl⟩, HJ⟩

theorem chunk_nil (l b1 b2 : Nat) (a : Option Addr) (c : Nat) (w : World) (hb1 : Blk w b1 90 #[.slice a 0 c]) :
    Calls Tryd.prog 124 #[.func (.yield l) #[] #[], .pointer (some ⟨b1, 0, none⟩), .pointer (some ⟨b2, 0, none⟩)] w fun e w' => (∃ v, e = .returned v) ∧ w' = w := by
  have c1 := hb1.cv 0 (.slice a 0 c) rfl
  go_enter Tryd.func124, Tryd.ntmps124
  go_wp2_with fail
  go_loopw [4] (fun i wr => i = .int .i64 0 ∧ wr = w) (fun _ _ => 0)
  case atStart => exact ⟨rfl, rfl⟩
  case round =>
    obtain ⟨rfl, rfl⟩ := hrel
    go_wp2
    go_end0
    exact ⟨⟨_, rfl⟩, rfl⟩

end Go.Proofs.YtdjljnpbnhampaaDoor

namespace Go.Proofs.YtdjljnpbnhampaaDoor
open Go.RowKit
set_option linter.unusedVariables false
set_option maxRecDepth 100000

theorem Tryd.bdSize : (Tryd.prog.info? 188).map (·.size) = some 2 := by kernel_rfl

theorem Tryd.bdInfo : ∃ j, Tryd.prog.info? 188 = some j ∧ j.size = 2 := Option.map_eq_some_iff.1 Tryd.bdSize

theorem Tryd.byteInfo : (Tryd.prog.info? 5).map (fun i => (i.zero, i.size, i.bytes)) = some (some (.int .u8 0), 1, 1) := by kernel_rfl

theorem build_used (b : Nat) (w : World) (h0 : w.cell? ⟨b, 0, none⟩ = some (.pointer (some ⟨b, 0, none⟩))) :
    Calls Tryd.prog 111 #[.pointer (some ⟨b, 0, none⟩)] w fun e w' => e = .returned (.tuple #[]) ∧ w' = w := by
  obtain ⟨j, hj, _⟩ := Tryd.bdInfo
  go_enter Tryd.func111, Tryd.ntmps111
  go_wp2
  rw [Lib.run_neq_ptr_same w _ Tryd.underlying186 hj]
  go_wp2
  go_end0
  exact ⟨rfl, rfl⟩

theorem build_fresh (b : Nat) (w : World) (h0 : w.cell? ⟨b, 0, none⟩ = some (.pointer none)) (hsh : w.shape? b = some (188, 2)) (hfz : w.frozen? ⟨b, 0, none⟩ = false) :
    Calls Tryd.prog 111 #[.pointer (some ⟨b, 0, none⟩)] w fun e w' => e = .returned (.tuple #[]) ∧ w' = w.setCell ⟨b, 0, none⟩ (.pointer (some ⟨b, 0, none⟩)) := by
  obtain ⟨j, hj, hjs⟩ := Tryd.bdInfo
  have q1 := Lib.run_to_unsafe (P := Tryd.prog) w ⟨b, 0, none⟩ Tryd.underlying186 Tryd.underlying194 hj (by rw [hjs]; decide) hsh (Nat.zero_lt_succ 1)
  have q2 : ∀ v : Value, (callFunc 123 #[v]).run Tryd.prog w = .ok (.value v) w := fun v => by
    rw [run_callFunc_extern Tryd.func123 (by kernel_rfl) (by kernel_rfl) (by kernel_rfl) (e := Extern.AbiNoEscape.same) (by kernel_rfl), Lib.run_noEscape]
    rfl
  have q3 := Lib.run_from_unsafe (P := Tryd.prog) w ⟨b, 0, none⟩ Tryd.underlying194 Tryd.underlying186 hj hsh (by kernel_rfl)
  go_enter Tryd.func111, Tryd.ntmps111
  go_wp2
  go_end0
  exact ⟨rfl, rfl⟩

/-- copyCheck: behind it the builder holds its own address. -/
theorem build_check (B b : Nat) (bs : List Value) (w : World) (h : Lib.IsBuilder 188 5 B b bs w) :
    Calls Tryd.prog 111 #[.pointer (some ⟨b, 0, none⟩)] w fun e w' => e = .returned (.tuple #[]) ∧ (Lib.BuilderAt 188 5 B b (.pointer (some ⟨b, 0, none⟩)) bs w' ∧ Below B w w') := by
  rcases h with h | h
  · refine (build_fresh b w h.cell0 h.shape h.frozen0).mono ?_
    rintro e w' ⟨rfl, rfl⟩
    exact ⟨rfl, h.used _, (Below.refl B w).setCell (p := ⟨b, 0, none⟩) h.1 _⟩
  · refine (build_used b w h.cell0).mono ?_
    rintro e w' ⟨rfl, rfl⟩
    exact ⟨rfl, h, Below.refl B _⟩

set_option maxHeartbeats 1000000 in
/-- WriteString: the text's bytes come behind. -/
theorem build_write (B b : Nat) (bs : List Value) (s : ByteArray) (w : World) (h : Lib.IsBuilder 188 5 B b bs w) (hlen : bs.length + s.size ≤ 1000000) (hBw : B ≤ w.heap.size) :
    Calls Tryd.prog 92 #[.pointer (some ⟨b, 0, none⟩), .string s] w fun e w' => e = .returned (.tuple #[.int .i64 s.size, .nilIface]) ∧ (Lib.IsBuilder 188 5 B b (bs ++ Lib.strCells s) w' ∧ Below B w w') := by
  obtain ⟨i0, hi, hz0, hz1, hz2⟩ := info_parts Tryd.byteInfo
  go_enter Tryd.func92, Tryd.ntmps92
  go_wp2_with fail
  refine (build_check B b bs _ h).mono ?_
  rintro e w1 ⟨rfl, h1, hb1⟩
  obtain ⟨hB, v, hbk, hown, hne⟩ := h1
  have c0 : w1.cell? ⟨b, 0, none⟩ = some (.pointer (some ⟨b, 0, none⟩)) := by rw [Lib.cell_of_heap hbk]; rfl
  have c1 : w1.cell? ⟨b, 1, none⟩ = some v := by rw [Lib.cell_of_heap hbk]; rfl
  have hlt : b < w1.heap.size := (Array.getElem?_eq_some_iff.1 hbk).1
  go_wp2_with (at_builtin; refine Lib.wpList_append_own_string _ rfl _ _ 157 9 rfl B 5 i0 Tryd.underlying157 Tryd.underlying9 hi hz0 hz1 hz2 _ _ _ rfl hown s rfl ?c3 ?c4 ?c5 ?_)
  case c3 => unfold maxLen; omega
  case c4 => omega
  case c5 => have := hb1.size; omega
  intro v' w2 hown' hgrow _
  have hb2 : w2.heap[b]? = some (.cells #[.pointer (some ⟨b, 0, none⟩), v] 188 (0, 0)) := (hgrow.block b hlt (fun e => hne e.symm)).trans hbk
  have d0 : w2.cell? ⟨b, 0, none⟩ = some (.pointer (some ⟨b, 0, none⟩)) := by rw [Lib.cell_of_heap hb2]; rfl
  have d1 : w2.cell? ⟨b, 1, none⟩ = some v := by rw [Lib.cell_of_heap hb2]; rfl
  have f1 : w2.frozen? ⟨b, 1, none⟩ = false := Lib.frozen_of_heap hb2 1
  obtain ⟨ao, n', cap, rfl⟩ : ∃ ao n' cap, v' = .slice ao n' cap := by
    rcases hown'.2 with ⟨hv, _⟩ | ⟨g, cap, cur, hv, _⟩
    · exact ⟨_, _, _, hv⟩
    · exact ⟨_, _, _, hv⟩
  go_wp2
  go_ret2
  refine ⟨rfl, Or.inr (Lib.BuilderAt.put hB hb2 (bs' := bs ++ Lib.strCells s) (by simpa [Lib.strCells_length] using hown') (by decide)), ?_⟩
  exact (hb1.grown hgrow (by have := hb1.size; omega) (fun k hk => (hown.lt k hk).1)).setCell (p := ⟨b, 1, none⟩) hB _

/-- A new Builder. -/
theorem build_new (w : World) : Lib.IsBuilder 188 5 w.heap.size w.heap.size [] (w.alloc (.cells #[.pointer none, .slice none 0 0] 188)) := Lib.fresh_isBuilder _ _ w

end Go.Proofs.YtdjljnpbnhampaaDoor

namespace Go.Proofs.YtdjljnpbnhampaaDoor
open Go.RowKit
attribute [local go_sem ↓] Go.wp_at_zero Go.wp_at_succ
set_option linter.unusedSimpArgs false
set_option linter.unusedVariables false
set_option maxRecDepth 100000

/-- Whatever is no Builder, and no bytes, is as it was. -/
def KeepO (w w' : World) : Prop := w.heap.size ≤ w'.heap.size ∧ ∀ (X : Nat) (o : Obj), w.heap[X]? = some o → (∀ C F, o ≠ .cells C 5 F) → (∀ C F, o ≠ .cells C 188 F) → w'.heap[X]? = some o

theorem KeepO.of {w w' : World} (h : Below w.heap.size w w') : KeepO w w' := ⟨h.size, fun X o ho _ _ => (h.block X (Array.getElem?_eq_some_iff.1 ho).1).trans ho⟩

theorem KeepO.trans {w w' w'' : World} (h : KeepO w w') (h' : KeepO w' w'') : KeepO w w'' := ⟨Nat.le_trans h.1 h'.1, fun X o ho h1 h2 => h'.2 X o (h.2 X o ho h1 h2) h1 h2⟩

theorem KeepO.blk {w w' : World} {X : Nat} {T : TypeId} {C : Array Value} (h : KeepO w w') (hB : Blk w X T C) (h1 : T ≠ 5) (h2 : T ≠ 188) : Blk w' X T C :=
  h.2 X _ hB (fun D F e => by cases e; exact h1 rfl) (fun D F e => by cases e; exact h2 rfl)

theorem KeepO.loop {w w' : World} {X : Nat} {r : Loop} (h : KeepO w w') (hl : w.heap[X]? = some (.loop r)) : w'.heap[X]? = some (.loop r) := h.2 X _ hl (fun D F e => by cases e) (fun D F e => by cases e)

theorem KeepO.mark {w w' : World} {X : Nat} {d : Option (List Deferred)} (h : KeepO w w') (hl : w.heap[X]? = some (.deferred d)) : w'.heap[X]? = some (.deferred d) := h.2 X _ hl (fun D F e => by cases e) (fun D F e => by cases e)

theorem KeepO.cell (w : World) (b j : Nat) (v : Value) {C : Array Value} {F : Nat × Nat} (h : w.heap[b]? = some (.cells C 188 F)) : KeepO w (w.setCell ⟨b, j, none⟩ v) :=
  ⟨(KeepsWalks.setCell w _ v).size, fun X o ho h1 h2 => by
    have hne : X ≠ b := by
      intro e
      subst e
      rw [ho] at h
      injection h with h
      exact h2 _ _ h
    exact (Below.heap_setCell w ⟨b, j, none⟩ v X hne).trans ho⟩

theorem KeepO.grow {w w' : World} {v : Value} {B n : Nat} {bs : List Value} (hown : w.ownsRowF B 5 1 v n bs) (hg : w.grownBy w' v.ownBlock) : KeepO w w' :=
  ⟨hg.size, fun X o ho h1 h2 => by
    refine (hg.block X (Array.getElem?_eq_some_iff.1 ho).1 ?_).trans ho
    intro e
    rcases hown.2 with ⟨hv, _⟩ | ⟨g, cap, cur, fz, hv, _, h3, _⟩
    · rw [hv] at e
      cases e
    · rw [hv] at e
      have e2 : X = g := by simpa [Value.ownBlock] using e
      subst e2
      rw [ho] at h3
      injection h3 with h3
      exact h1 _ _ h3⟩

theorem KeepO.grow0 {w w' : World} {v : Value} {B n : Nat} {bs : List Value} (hown : w.ownsRow B 5 1 v n bs) (hg : w.grownBy w' v.ownBlock) : KeepO w w' := KeepO.grow (World.ownsRowF_of hown) hg

theorem check_o (B b : Nat) (bs : List Value) (w : World) (h : Lib.IsBuilder 188 5 B b bs w) :
    Calls Tryd.prog 111 #[.pointer (some ⟨b, 0, none⟩)] w fun e w' => e = .returned (.tuple #[]) ∧ (Lib.BuilderAt 188 5 B b (.pointer (some ⟨b, 0, none⟩)) bs w' ∧ Below B w w') ∧ KeepO w w' := by
  rcases h with h | h
  · refine (build_fresh b w h.cell0 h.shape h.frozen0).mono ?_
    rintro e w' ⟨rfl, rfl⟩
    obtain ⟨_, v, hb, _⟩ := id h
    exact ⟨rfl, ⟨h.used _, (Below.refl B w).setCell (p := ⟨b, 0, none⟩) h.1 _⟩, KeepO.cell w b 0 _ hb⟩
  · refine (build_used b w h.cell0).mono ?_
    rintro e w' ⟨rfl, rfl⟩
    exact ⟨rfl, ⟨h, Below.refl B _⟩, KeepO.of (Below.refl _ _)⟩

set_option maxHeartbeats 1000000 in
/-- WriteString: the text's bytes come behind. -/
theorem write_o (B b : Nat) (bs : List Value) (s : ByteArray) (w : World) (h : Lib.IsBuilder 188 5 B b bs w) (hlen : bs.length + s.size ≤ 1000000) (hBw : B ≤ w.heap.size) :
    Calls Tryd.prog 92 #[.pointer (some ⟨b, 0, none⟩), .string s] w fun e w' => e = .returned (.tuple #[.int .i64 s.size, .nilIface]) ∧ (Lib.IsBuilder 188 5 B b (bs ++ Lib.strCells s) w' ∧ Below B w w') ∧ KeepO w w' := by
  obtain ⟨i0, hi, hz0, hz1, hz2⟩ := info_parts Tryd.byteInfo
  go_enter Tryd.func92, Tryd.ntmps92
  go_wp2_with fail
  refine (check_o B b bs _ h).mono ?_
  rintro e w1 ⟨rfl, ⟨h1, hb1⟩, K1⟩
  obtain ⟨hB, v, hbk, hown, hne⟩ := h1
  have c0 : w1.cell? ⟨b, 0, none⟩ = some (.pointer (some ⟨b, 0, none⟩)) := by rw [Lib.cell_of_heap hbk]; rfl
  have c1 : w1.cell? ⟨b, 1, none⟩ = some v := by rw [Lib.cell_of_heap hbk]; rfl
  have hlt : b < w1.heap.size := (Array.getElem?_eq_some_iff.1 hbk).1
  go_wp2_with (at_builtin; refine Lib.wpList_append_own_string _ rfl _ _ 157 9 rfl B 5 i0 Tryd.underlying157 Tryd.underlying9 hi hz0 hz1 hz2 _ _ _ rfl hown s rfl ?c3 ?c4 ?c5 ?_)
  case c3 => unfold maxLen; omega
  case c4 => omega
  case c5 => have := hb1.size; omega
  intro v' w2 hown' hgrow _
  have K2 : KeepO w1 w2 := KeepO.grow0 hown hgrow
  have hb2 : w2.heap[b]? = some (.cells #[.pointer (some ⟨b, 0, none⟩), v] 188 (0, 0)) := (hgrow.block b hlt (fun e => hne e.symm)).trans hbk
  have d0 : w2.cell? ⟨b, 0, none⟩ = some (.pointer (some ⟨b, 0, none⟩)) := by rw [Lib.cell_of_heap hb2]; rfl
  have d1 : w2.cell? ⟨b, 1, none⟩ = some v := by rw [Lib.cell_of_heap hb2]; rfl
  have f1 : w2.frozen? ⟨b, 1, none⟩ = false := Lib.frozen_of_heap hb2 1
  obtain ⟨ao, n', cap, rfl⟩ : ∃ ao n' cap, v' = .slice ao n' cap := by
    rcases hown'.2 with ⟨hv, _⟩ | ⟨g, cap, cur, hv, _⟩
    · exact ⟨_, _, _, hv⟩
    · exact ⟨_, _, _, hv⟩
  go_wp2
  go_ret2
  refine ⟨rfl, ⟨Or.inr (Lib.BuilderAt.put hB hb2 (bs' := bs ++ Lib.strCells s) (by simpa [Lib.strCells_length] using hown') (by decide)), ?_⟩, (K1.trans K2).trans (KeepO.cell w2 b 1 _ hb2)⟩
  exact (hb1.grown hgrow (by have := hb1.size; omega) (fun k hk => (hown.lt k hk).1)).setCell (p := ⟨b, 1, none⟩) hB _

theorem cells_appO (a b : List UInt8) : Lib.byteCells (a ++ b) = Lib.byteCells a ++ Lib.byteCells b := by simp [Lib.byteCells]

theorem cells_lenO (a : List UInt8) : (Lib.byteCells a).length = a.length := by simp [Lib.byteCells]

/-- A builder of these bytes; of its own from b on. -/
def BO (b : Nat) (y : List UInt8) (w : World) : Prop := Lib.IsBuilder 188 5 b b (Lib.byteCells y) w

theorem bo_new (w : World) : BO w.heap.size [] (w.alloc (.cells #[.pointer none, .slice none 0 0] 188)) := build_new w

theorem write_bo (b : Nat) (y z : List UInt8) (w : World) (h : BO b y w) (hlen : y.length + z.length ≤ 1000000) (hBw : b ≤ w.heap.size) :
    Calls Tryd.prog 92 #[.pointer (some ⟨b, 0, none⟩), .string ⟨z.toArray⟩] w fun e w' => e = .returned (.tuple #[.int .i64 z.length, .nilIface]) ∧ BO b (y ++ z) w' ∧ Below b w w' ∧ KeepO w w' := by
  refine (write_o b b (Lib.byteCells y) ⟨z.toArray⟩ w h (by rw [cells_lenO]; exact hlen) hBw).mono ?_
  rintro e w' ⟨rfl, ⟨h1, h2⟩, h3⟩
  refine ⟨rfl, ?_, h2, h3⟩
  unfold BO
  rw [cells_appO]
  exact h1

theorem bo_keepC {b : Nat} {y : List UInt8} {w w' : World} (h : BO b y w) (hk : KeepC w w') : BO b y w' := by
  have key : ∀ p, Lib.BuilderAt 188 5 b b p (Lib.byteCells y) w → Lib.BuilderAt 188 5 b b p (Lib.byteCells y) w' := fun p h => by
    obtain ⟨hB, v, hbk, hown, hne⟩ := h
    exact ⟨hB, v, hk.same _ _ _ _ hbk, hk.owns hown, hne⟩
  rcases h with h | h
  · exact Or.inl (key _ h)
  · exact Or.inr (key _ h)

theorem bo_lt {b : Nat} {y : List UInt8} {w : World} (h : BO b y w) : b < w.heap.size := by
  rcases h with h | h
  · exact h.lt
  · exact h.lt

/-- What has been written, as a text. -/
theorem string_bo {b : Nat} {y : List UInt8} {w : World} (h : BO b y w) (h0 : y ≠ []) :
    Calls Tryd.prog 94 #[.pointer (some ⟨b, 0, none⟩)] w fun e w' => e = .returned (.string ⟨y.toArray⟩) ∧ Below b w w' ∧ KeepO w w' := by
  obtain ⟨p, hB, v, hbk, hown, hne⟩ : ∃ p, Lib.BuilderAt 188 5 b b p (Lib.byteCells y) w := by
    rcases h with h | h
    · exact ⟨_, h⟩
    · exact ⟨_, h⟩
  have hl0 : y.length ≠ 0 := by simpa using h0
  rw [Lib.byteCells_length] at hown
  obtain ⟨g, cap, cur, rfl, hbg, hg, hnc, hcm, hcs, htake⟩ : ∃ g cap cur, v = .slice (some ⟨g, 0, none⟩) y.length cap ∧ b ≤ g ∧ w.heap[g]? = some (.cells cur 5 (0, 0)) ∧ y.length ≤ cap ∧ cap ≤ maxLen ∧ cur.size = cap * 1 ∧ cur.toList.take (y.length * 1) = Lib.byteCells y := by
    rcases hown.2 with ⟨_, hz⟩ | ⟨g, cap, cur, hv, r⟩
    · exact absurd hz hl0
    · exact ⟨g, cap, cur, hv, r⟩
  have c1 : w.drew.cell? ⟨b, 1, none⟩ = some (.slice (some ⟨g, 0, none⟩) y.length cap) := by
    have : w.drew.heap[b]? = some (.cells #[p, .slice (some ⟨g, 0, none⟩) y.length cap] 188 (0, 0)) := hbk
    rw [Lib.cell_of_heap this]; rfl
  have hSD : (Builtin.unsafeSliceData_ #[157] 219 #[.slice (some ⟨g, 0, none⟩) y.length cap]).run Tryd.prog w.drew = .ok (.pointer (some ⟨g, 0, none⟩)) w.drew :=
    Lib.run_unsafeSliceData_row _ _ _ _ _ _ (by omega)
  have hUS : (Builtin.unsafeString_ #[219, 3] 9 #[.pointer (some ⟨g, 0, none⟩), .int .i64 y.length]).run Tryd.prog w.drew = .ok (.string ⟨y.toArray⟩) (w.drew.freeze ⟨g, 0, none⟩ y.length) := by
    refine Lib.run_unsafeString_row w.drew 219 3 9 5 Tryd.underlying219 (by kernel_rfl) g cur.size (by have hg' : w.drew.heap[g]? = some (.cells cur 5 (0, 0)) := hg; simp [World.shape?, hg']) y h0 (by omega) (by unfold maxLen at hcm; omega) ?_
    intro j x hx
    have := hown.cells (g := g) rfl j (.int .u8 x.toNat) (by simp [Lib.byteCells, hx])
    exact this
  have hK : Hid (KeepO w (w.drew.freeze ⟨g, 0, none⟩ y.length)) := by
    refine ⟨(Lib.below_freeze (Below.drew (Below.refl g w)) (p := ⟨g, 0, none⟩) (Nat.le_refl _) _).size, fun X o ho h1 h2 => ?_⟩
    have hne : X ≠ g := by
      intro e
      subst e
      rw [ho] at hg
      injection hg with hg
      exact h1 _ _ hg
    have e : (w.drew.freeze ⟨g, 0, none⟩ y.length).heap[X]? = w.heap[X]? := by
      unfold World.freeze
      rw [if_neg hl0]
      show (w.heap.modify g _)[X]? = w.heap[X]?
      rw [Array.getElem?_modify, if_neg (fun q => hne q.symm)]
    exact e.trans ho
  have hBl : Hid (Below b w (w.drew.freeze ⟨g, 0, none⟩ y.length)) := Lib.below_freeze (Below.drew (Below.refl b w)) (p := ⟨g, 0, none⟩) hbg _
  clear h hown hcs htake hg hbk
  go_enter Tryd.func94, Tryd.ntmps94
  go_wp2
  go_region
  all_goals (go_wp2; go_ret; exact ⟨rfl, hBl.out, hK.out⟩)

end Go.Proofs.YtdjljnpbnhampaaDoor

namespace Go.Proofs.YtdjljnpbnhampaaDoor
open Go.RowKit

set_option maxHeartbeats 800000 in
theorem must_put (X : Nat) (n : Int) (v er : Value) (w : World) (hX : X ≤ 4611686018427387904) (hp : ∀ w2, Calls Tryd.prog 118 #[.int .u64 X, .int .i64 n] w2 fun e w' => e = .returned (.tuple #[v, er]) ∧ Below w2.heap.size w2 w') :
    Calls Tryd.prog 112 #[.int .i64 X, .int .i64 n] w fun e w' => e = .returned v ∧ Below w.heap.size w w' := by
  have HP := Lib.hid hp
  clear hp
  have HW : Hid (IntKind.u64.wrap (X : Int) = (X : Int)) := by show _ = _; rw [IntKind.wrap_u64]; omega
  go_enter Tryd.func112, Tryd.ntmps112
  go_wp2_with fail
  refine (HP.out _).mono ?_
  rintro e w' ⟨rfl, hb⟩
  go_wp2
  go_ret
  exact ⟨rfl, hb⟩

/-- Must, the number fits: its n bytes. -/
theorem must_fits (X n : Nat) (w : World) (h1 : 1 ≤ n) (h7 : n ≤ 7) (hf : X < 256 ^ n) :
    Calls Tryd.prog 112 #[.int .i64 X, .int .i64 n] w fun e w' => e = .returned (.string ⟨(putL X n).toArray⟩) ∧ Below w.heap.size w w' := by
  have hX : X ≤ 4611686018427387904 := by
    have : 256 ^ n ≤ 256 ^ 7 := Nat.pow_le_pow_right (by decide) h7
    omega
  exact must_put X n _ _ w hX fun w2 => put_fits X n w2 h1 (by omega) (fits_to X n hf)

end Go.Proofs.YtdjljnpbnhampaaDoor

namespace Go.Proofs.YtdjljnpbnhampaaDoor
open Go.RowKit
attribute [local go_sem ↓] Go.wp_at_zero Go.wp_at_succ
set_option linter.unusedSimpArgs false
set_option linter.unusedVariables false
set_option maxRecDepth 100000

theorem isB_below {T e : TypeId} {B b : Nat} {bs : List Value} {w w' : World} (h : Lib.IsBuilder T e B b bs w) (hb : Below w.heap.size w w') : Lib.IsBuilder T e B b bs w' := by
  have hg : w.grownBy w' none := ⟨hb.os, hb.tape, hb.output, hb.size, fun k hk _ => hb.block k hk⟩
  have key : ∀ p, Lib.BuilderAt T e B b p bs w → Lib.BuilderAt T e B b p bs w' := fun p h => by
    have hlt := h.lt
    obtain ⟨hB, v, hbk, hown, hne⟩ := h
    exact ⟨hB, v, (hb.block b hlt).trans hbk, hown.kept hg (by cases hv : v.ownBlock <;> simp), hne⟩
  rcases h with h | h
  · exact Or.inl (key _ h)
  · exact Or.inr (key _ h)

theorem Tryd.bdZero : (Tryd.prog.info? 188).map (·.zero) = some (some (.agg #[.pointer none, .slice none 0 0])) := by kernel_rfl

end Go.Proofs.YtdjljnpbnhampaaDoor

namespace Go.Proofs.YtdjljnpbnhampaaDoor
open Go.RowKit
attribute [local go_sem ↓] Go.wp_at_zero Go.wp_at_succ
attribute [local go_sem] Oper.semAt_some
set_option linter.unusedSimpArgs false
set_option linter.unusedVariables false
set_option maxRecDepth 100000

/-- The first three, noughts behind them. -/
def p3 (l : List Int) : Array Value := #[.int .i64 (l.getD 0 0), .int .i64 (l.getD 1 0), .int .i64 (l.getD 2 0)]

theorem join_any (a b c : Int) (ha : 0 ≤ a ∧ a ≤ 5) (hb : 0 ≤ b ∧ b ≤ 5) (hc : 0 ≤ c ∧ c ≤ 5) (w : World) :
    Calls Tryd.prog 114 #[.agg #[.int .i64 a, .int .i64 b, .int .i64 c]] w fun e w' => e = .returned (.int .i64 (g3 a b c : Nat)) ∧ Below w.heap.size w w' := by
  have hb0 : Below w.heap.size w (w.alloc (.cells #[.int .i64 a, .int .i64 b, .int .i64 c] 217)) := (Below.refl _ _).alloc (Nat.le_refl _) _
  have e : ((g3 a b c : Nat) : Int) = 6 * (6 * a + b) + c := by unfold g3; omega
  have q1 : IntKind.i64.wrap (6 * a) = 6 * a := by rw [IntKind.wrap_i64] <;> omega
  have q2 : IntKind.i64.wrap (6 * a + b) = 6 * a + b := by rw [IntKind.wrap_i64] <;> omega
  have q3 : IntKind.i64.wrap (6 * (6 * a + b)) = 6 * (6 * a + b) := by rw [IntKind.wrap_i64] <;> omega
  have q4 : IntKind.i64.wrap (6 * (6 * a + b) + c) = 6 * (6 * a + b) + c := by rw [IntKind.wrap_i64] <;> omega
  rw [e]
  clear e ha hb hc
  go_enter Tryd.func114, Tryd.ntmps114
  go_wp2
  go_ret
  exact ⟨rfl, hb0⟩

theorem evL_few : ∀ (m : List Int), 0 < m.length → m.length ≤ 3 → evL m = putL (g3 (m.getD 0 0) (m.getD 1 0) (m.getD 2 0)) 1
  | [a], _, _ => by simp [evL]
  | [a, b], _, _ => by simp [evL]
  | [a, b, c], _, _ => by simp [evL]
  | a :: b :: c :: d :: l, _, h => by simp at h

theorem copy_few (m : List Int) (h : m.length ≤ 3) : ((#[Value.int .i64 0, .int .i64 0, .int .i64 0] : Array Value).toList.take 0 ++ (m.map fun v => Value.int .i64 v) ++ (#[Value.int .i64 0, .int .i64 0, .int .i64 0] : Array Value).toList.drop (0 + (m.map fun v => Value.int .i64 v).length)).toArray = p3 m := by
  match m, h with
  | [], _ => rfl
  | [a], _ => rfl
  | [a, b], _ => rfl
  | [a, b, c], _ => rfl
  | a :: b :: c :: d :: l, h => simp at h

/-- Three events into an array, in a round. -/
theorem copyR {F : Fence} {n : Nat} {ops : Array Oper} {rest : List Oper} {o : Oper} {a : Act} {w : World} {Q : Exit → Act → World → Prop} {d x : Operand} {B b q c : Nat} (m : List Int) (hg : o.guard = none)
    (hop : o.op = .call { callee := .builtin .copy, args := #[d, x], argTypes := #[90, 90] }) (hd : a.eval d = .slice (some ⟨B, 0, none⟩) 3 3) (hx : a.eval x = .slice (some ⟨b, q, none⟩) m.length c)
    (hB : Blk w B 217 #[.int .i64 0, .int .i64 0, .int .i64 0]) (hI : IvAt w b q m) (hm : m.length ≤ 3)
    (h : ∀ w', Blk w' B 217 (p3 m) → w.grownBy w' (some B) → Below B w w' → wpListIn F n Tryd.prog ops Q rest (a.put o.dst (goInt m.length)) w') : wpListIn F n Tryd.prog ops Q (o :: rest) a w := by
  refine wpListIn_plain hg fun K hK => ?_
  have hrun := run_copy_row (P := Tryd.prog) w 90 90 o.type 3 B 0 3 3 ⟨b, q, none⟩ m.length c #[.int .i64 0, .int .i64 0, .int .i64 0] 217 (m.map fun v => .int .i64 v) Tryd.underlying90 (by kernel_rfl) hB
    (by rw [List.length_map]; exact (Nat.min_eq_left hm).symm) (fun j v hv => by
      rw [List.getElem?_map] at hv
      obtain ⟨y, hy, rfl⟩ := Option.map_eq_some_iff.1 hv
      obtain ⟨hj, hy⟩ := List.getElem?_eq_some_iff.1 hy
      have e := hI j hj 0 (.int .i64 m[j]) rfl
      rw [Nat.mul_one, Nat.add_zero] at e
      rw [Addr.add_lit, e, hy]) (by rw [List.length_map]; simpa using hm) (fun v hv => by
      obtain ⟨y, _, rfl⟩ := List.mem_map.1 hv
      rfl)
  rw [copy_few m hm, List.length_map] at hrun
  unfold Oper.wpIn
  refine ⟨by simp [Oper.about, hop, resolve, Target.leads, Sem.run_pure], ?_⟩
  rw [Oper.semAt_plain F _ _ (by rw [hop]; intro c hc'; cases hc')]
  simp [execOp, hop, resolve, invoke, builtin, hd, hx, hrun, Result.andThen]
  exact hK _ _ (h _ (hB.setRow _) ⟨rfl, rfl, rfl, by simp, fun j _ hj => setRow_other w B j _ (by intro e; subst e; exact hj rfl)⟩ (below_setRow (Below.refl _ _) (Nat.le_refl _) _))

/-- What holds between two rounds. -/
structure AtJ (w0 : World) (B b1 b2 D L : Nat) (r : Loop) (sl : Value) (y : List UInt8) (W : World) : Prop where
  bo : BO B y W
  x1 : Blk W b1 90 #[sl]
  x2 : Blk W b2 3 #[.int .i64 3]
  lp : W.heap[L]? = some (.loop r)
  dm : W.heap[D]? = some (.deferred (some []))
  be : Below w0.heap.size w0 W

theorem AtJ.keepC {w0 W W' : World} {B b1 b2 D L : Nat} {r r' : Loop} {sl : Value} {y : List UInt8} (h : AtJ w0 B b1 b2 D L r sl y W) (hk : KeepC W W') (hl : W'.heap[L]? = some (.loop r')) (hm : W'.heap[D]? = some (.deferred (some []))) (hb : Below w0.heap.size W W') : AtJ w0 B b1 b2 D L r' sl y W' :=
  ⟨bo_keepC h.bo hk, hk.blk h.x1, hk.blk h.x2, hl, hm, h.be.trans hb⟩

theorem AtJ.grown {w0 W W' : World} {B b1 b2 D L G : Nat} {r : Loop} {sl : Value} {y : List UInt8} {T : TypeId} {C : Array Value} (h : AtJ w0 B b1 b2 D L r sl y W) (hg : W.grownBy W' (some G)) (hG : Blk W G T C) (h1 : T ≠ 5) (h2 : T ≠ 188) (h3 : T ≠ 90 ∧ T ≠ 3) (h4 : w0.heap.size ≤ G) : AtJ w0 B b1 b2 D L r sl y W' := by
  have hne : ∀ (X : Nat) (o : Obj), W.heap[X]? = some o → (∀ C2 F, o ≠ Obj.cells C2 T F) → W'.heap[X]? = some o := fun X o ho hno => by
    refine (hg.block X (Array.getElem?_eq_some_iff.1 ho).1 ?_).trans ho
    intro e
    obtain rfl : X = G := by simpa using e
    have q : W.heap[X]? = some (.cells C T (0, 0)) := hG
    rw [ho] at q
    injection q with q
    exact hno _ _ q
  have key : ∀ p, Lib.BuilderAt 188 5 B B p (Lib.byteCells y) W → Lib.BuilderAt 188 5 B B p (Lib.byteCells y) W' := fun p h => by
    obtain ⟨hB, v, hbk, hown, hne2⟩ := h
    refine ⟨hB, v, hne _ _ hbk (fun C2 F e => by injection e with _ e; exact h2 e.symm), hown.kept hg ?_, hne2⟩
    rcases hown.2 with ⟨rfl, _⟩ | ⟨g, cap, cur, rfl, _, hgb, _⟩
    · exact Or.inl rfl
    · refine Or.inr fun e => ?_
      obtain rfl : g = G := by simpa [Value.ownBlock] using e
      have q : W.heap[g]? = some (.cells C T (0, 0)) := hG
      rw [hgb] at q
      injection q with q
      injection q with _ q
      exact h1 q.symm
  refine ⟨?_, hne _ _ h.x1 (fun C2 F e => by injection e with _ e; exact h3.1 e.symm), hne _ _ h.x2 (fun C2 F e => by injection e with _ e; exact h3.2 e.symm), hne _ _ h.lp (fun C2 F e => by cases e), hne _ _ h.dm (fun C2 F e => by cases e), ?_⟩
  · rcases h.bo with q | q
    · exact Or.inl (key _ q)
    · exact Or.inr (key _ q)
  · exact h.be.grown hg h.be.size (fun k e => by cases e; exact h4)

theorem AtJ.of {w0 W W' : World} {B b1 b2 D L : Nat} {r : Loop} {sl : Value} {y : List UInt8} (h : AtJ w0 B b1 b2 D L r sl y W) (hb : Below W.heap.size W W') : AtJ w0 B b1 b2 D L r sl y W' :=
  h.keepC (KeepC.of hb) (loop_below h.lp hb) (loop_below h.dm hb) (hb.mono h.be.size)

set_option maxHeartbeats 12800000 in
theorem attrText_any (x : Mv) (a : Option Addr) (c : Nat) (hc : x.ev.length ≤ c) (w : World) (hx : okMv x = true) (h : IvIn w a x.ev) :
    Calls Tryd.prog 93 #[.agg (mvC ⟨x, a, c⟩)] w fun e w' => e = .returned (.string ⟨(attrW x).toArray⟩) ∧ Below w.heap.size w w' := by
  have hl := okMv_len hx
  have hf := okMv_first hx
  have he := okMv_ev hx
  have HM : Hid (∀ (X : Nat) (W : World), X < 65536 → Calls Tryd.prog 112 #[.int .i64 (X : Nat), .int .i64 2] W fun e w' => e = .returned (.string ⟨(putL X 2).toArray⟩) ∧ Below W.heap.size W w') := fun X W hX => must_fits X 2 W (by decide) (by decide) hX
  have HAW : Hid (attrW x = putL (cntMv x) 2 ++ putL x.first.toNat 2 ++ evL x.ev) := by show _ = _; unfold attrW; rw [List.append_assoc]
  obtain ⟨F, hF⟩ : ∃ F : Nat, x.first = (F : Int) := ⟨x.first.toNat, by omega⟩
  have hFl : F < 65536 := by omega
  obtain ⟨Y, hY⟩ : ∃ Y, cntMv x = Y := ⟨_, rfl⟩
  have hYl : Y < 65536 := by rw [← hY]; have := (cnt_ok hx).2.1; omega
  rw [hF, hY, Int.toNat_natCast] at HAW
  have hcn : cntMv x = x.ev.length + if x.all then 8192 else 0 := rfl
  rw [hY] at hcn
  generalize attrW x = AW at *
  obtain ⟨al, fi, ev⟩ := x
  simp only at *
  subst hF
  clear hx hf hY
  unfold mvC
  simp only
  have HA := Blk.new w 92 #[.bool al, .int .i64 (F : Nat), .slice a ev.length c]
  have B0 : Below w.heap.size w (w.alloc (.cells #[.bool al, .int .i64 (F : Nat), .slice a ev.length c] 92)) := (Below.refl _ _).alloc (Nat.le_refl _) _
  have hs0 : (w.alloc (.cells #[.bool al, .int .i64 (F : Nat), .slice a ev.length c] 92)).heap.size = w.heap.size + 1 := by simp
  refine calls_of_marks Tryd.func93 rfl ?_
  simp only [Tryd.ntmps93, List.size_toArray, List.length_cons, List.length_nil, Nat.reduceAdd, Nat.reduceSub, Array.replicate_succ, Array.replicate_zero, List.push_toArray, List.append_toArray, List.nil_append, List.cons_append]
  go_upto_region 1 with (fail)
  generalize w.alloc (.cells #[.bool al, .int .i64 (F : Nat), .slice a ev.length c] 92) = w1 at *
  have k0 := HA.cv 0 (.bool al) rfl
  have k1 := HA.cv 1 (.int .i64 (F : Nat)) rfl
  have k2 := HA.cv 2 (.slice a ev.length c) rfl
  generalize hg : w.heap.size = g at *
  have HBO := bo_new w1
  have B1 : Below w1.heap.size w1 (w1.alloc (.cells #[.pointer none, .slice none 0 0] 188)) := (Below.refl _ _).alloc (Nat.le_refl _) _
  have HA1 := HA.kept B1
  obtain ⟨B, hB⟩ : ∃ B, w1.heap.size = B := ⟨_, rfl⟩
  have hgB : g < B := by rw [← hB, hs0]; omega
  clear hs0
  rw [hB] at HBO B1
  have hsl : (putL Y 2 ++ putL F 2).length = 4 := by rw [List.length_append, putL_length, putL_length]
  obtain ⟨z1, hz1⟩ : ∃ z, z = putL Y 2 ++ putL F 2 := ⟨_, rfl⟩
  have p1 : ∀ W, (Op.stringOp .add ⟨(putL Y 2).toArray⟩ ⟨(putL F 2).toArray⟩).run Tryd.prog W = .ok (.string ⟨z1.toArray⟩) W := fun W => by rw [hz1]; exact run_string_add_lists W (putL Y 2) (putL F 2) (by rw [putL_length]; omega) (by rw [putL_length]; omega)
  have zl1 : z1.length = 4 := by rw [hz1]; exact hsl
  have zl2 : z1.length ≤ 4 := Nat.le_of_eq zl1
  rw [← hz1] at HAW
  have hne : AW ≠ [] := by
    rw [HAW.out]
    intro q
    have q2 := congrArg List.length q
    rw [List.length_append, zl1] at q2
    simp at q2
  clear hz1 hsl
  have HMF := Lib.hid (fun W => HM.out F W hFl)
  have HMY := Lib.hid (fun W => HM.out Y W hYl)
  have HM1 : Hid (∀ (X : Nat) (W : World), X ≤ 215 → Calls Tryd.prog 112 #[.int .i64 (X : Nat), .int .i64 1] W fun e w' => e = .returned (.string ⟨(putL X 1).toArray⟩) ∧ Below W.heap.size W w') := fun X W hX => must_fits X 1 W (by decide) (by decide) (by omega)
  have HWB : Hid (∀ (z : List UInt8) (W : World), BO B [] W → z.length ≤ 1000 → Calls Tryd.prog 92 #[.pointer (some ⟨B, 0, none⟩), .string ⟨z.toArray⟩] W fun e w' => e = .returned (.tuple #[.int .i64 z.length, .nilIface]) ∧ BO B z w' ∧ Below B W w' ∧ KeepO W w') := fun z W hB hz => by
    have q := write_bo B [] z W hB (by simp; omega) (Nat.le_of_lt (bo_lt hB))
    rw [List.nil_append] at q
    exact q
  generalize hY1 : putL Y 2 = y1 at *
  generalize hY2 : putL F 2 = y2 at *
  clear hY1 hY2 HM
  cases al
  · obtain rfl : Y = ev.length := hcn
    go_upto_region 5 with (fail)
    generalize w1.alloc (.cells #[.pointer none, .slice none 0 0] 188) = w2 at *
    refine wp_region_noPanic ?_
    refine wp_region_held_drew (S := (fun w' => Blk w' g 92 #[.bool false, .int .i64 (F : Nat), .slice a ev.length c])) (by kernel_rfl) ?_ (fun hHeld => ?_)
    · exact HA1
    refine wpAnyH_take (i := 0) (v := ?_) rfl (by kernel_rfl) (by kernel_rfl) (by kernel_rfl) (fun _ _ _ h => h) (Or.inl ⟨by rfl, ?_⟩) (by assumption) ?_
    rotate_left
    · (intro w hSw; (try dsimp only at hSw); go_simp; (try with_reducible rfl))
    (try simp only [Act.put, List.getElem_toArray, List.getElem_cons_zero, List.getElem_cons_succ, List.setIfInBounds_toArray, List.set_cons_zero, List.set_cons_succ])
    refine wpAnyH_take (i := 2) (v := ?_) rfl (by kernel_rfl) (by kernel_rfl) (by kernel_rfl) (fun _ _ _ h => h) (Or.inl ⟨by rfl, ?_⟩) (by assumption) ?_
    rotate_left
    · (intro w hSw; (try dsimp only at hSw); go_simp; (try with_reducible rfl))
    (try simp only [Act.put, List.getElem_toArray, List.getElem_cons_zero, List.getElem_cons_succ, List.setIfInBounds_toArray, List.set_cons_zero, List.set_cons_succ])
    refine wpAnyH_take (i := 3) (v := .int .i64 (F : Nat)) rfl (by kernel_rfl) (by kernel_rfl) (by kernel_rfl) (fun _ _ _ h => h) (Or.inl ⟨by rfl, fun w hSw => by have c := hSw.cv 1 (.int .i64 (F : Nat)) rfl; go_simp⟩) (by assumption) ?_
    (try simp only [Act.put, List.getElem_toArray, List.getElem_cons_zero, List.getElem_cons_succ, List.setIfInBounds_toArray, List.set_cons_zero, List.set_cons_succ])
    refine wpAnyH_ready (rs := [1]) (by kernel_rfl) (by simp) ?_
    refine AllReadyH.cons rfl (fun K hK => ?_) AllReadyH.nil
    simp only [List.getElem_toArray, List.getElem_cons_zero, List.getElem_cons_succ]
    go_simp
    go_at_call 112; (with_reducible refine (HMY.out _).mono ?_); rintro e w3 ⟨rfl, b3⟩; have HA3 := HA1.drew.kept b3; have HO3 := bo_keepC HBO ((KeepC.drew _).trans (KeepC.of b3)); have B3 := B1.drew.trans (b3.mono (by have := B1.drew.size; omega))
    refine hK.out _ _ ?_ (fun hHeld => ?_)
    · exact HA3
    clear hK K
    (try simp only [Act.put, List.getElem_toArray, List.getElem_cons_zero, List.getElem_cons_succ, List.setIfInBounds_toArray, List.set_cons_zero, List.set_cons_succ])
    refine wpAnyH_ready (rs := [4]) (by kernel_rfl) (by simp) ?_
    refine AllReadyH.cons rfl (fun K hK => ?_) AllReadyH.nil
    simp only [List.getElem_toArray, List.getElem_cons_zero, List.getElem_cons_succ]
    go_simp
    go_at_call 112; (with_reducible refine (HMF.out _).mono ?_); rintro e w4 ⟨rfl, b4⟩; have HA4 := HA3.kept b4; have HO4 := bo_keepC HO3 (KeepC.of b4); have B4 := B3.trans (b4.mono (by have := B3.size; omega))
    refine hK.out _ _ ?_ (fun hHeld => ?_)
    · exact HA4
    clear hK K
    (try simp only [Act.put, List.getElem_toArray, List.getElem_cons_zero, List.getElem_cons_succ, List.setIfInBounds_toArray, List.set_cons_zero, List.set_cons_succ])
    refine wpAnyH_take (i := 5) (v := .string ⟨z1.toArray⟩) rfl (by kernel_rfl) (by kernel_rfl) (by kernel_rfl) (fun _ _ _ h => h) (Or.inl ⟨by rfl, fun w hSw => by go_simp⟩) (by assumption) ?_
    (try simp only [Act.put, List.getElem_toArray, List.getElem_cons_zero, List.getElem_cons_succ, List.setIfInBounds_toArray, List.set_cons_zero, List.set_cons_succ])
    refine wpAnyH_ready (rs := [6]) (by kernel_rfl) (by simp) ?_
    refine AllReadyH.cons rfl (fun K hK => ?_) AllReadyH.nil
    simp only [List.getElem_toArray, List.getElem_cons_zero, List.getElem_cons_succ]
    go_simp
    go_at_call 92; (with_reducible refine (HWB.out z1 _ HO4 (by omega)).mono ?_); rintro e w5 ⟨rfl, HO5, b5, K5⟩; have HA5 := K5.blk HA4 (by decide) (by decide); have B5 := B4.trans b5
    refine hK.out _ _ ?_ (fun hHeld => ?_)
    · exact HA5
    clear hK K
    (try simp only [Act.put, List.getElem_toArray, List.getElem_cons_zero, List.getElem_cons_succ, List.setIfInBounds_toArray, List.set_cons_zero, List.set_cons_succ])
    refine wpAnyH_done (by kernel_rfl) ?_ _
    refine NoPanic.normal ?_
    clear HBO HA1 HA3 HA4 HO3 HO4 b3 b4 B3 K5 HMF HMY p1 HWB zl1 b5 B1
    have m1 := HA5.cv 2 (.slice a ev.length c) rfl
    have hs5 := B5.size
    have HCH := Lib.hid (chunk_any a ev.length c w5)
    go_wp2_with fail
    refine HCH.out.mono ?_
    rintro e w6 ⟨rfl, HX1, HX2, b6, hs6⟩
    have HO6 := bo_keepC HO5 (KeepC.of b6)
    have hB0 : g < w1.heap.size := by omega
    have B6 := B0.trans ((B5.trans (b6.mono (show B ≤ w5.heap.size by omega))).mono (Nat.le_of_lt hgB))
    clear HCH m1 HO5 HA5 B4 B5
    go_wp2_with fail
    have hB6 : B ≤ w6.heap.size := by omega
    generalize w5.heap.size = q5 at *
    refine rf_outer rfl (enters_of Tryd.func124 (by kernel_rfl) rfl) ?_
    intro fn RL W hRL HL HD bW hW
    have HJ0 : AtJ w B q5 (q5 + 1) w6.heap.size (w6.heap.size + 1) (RL .ready) (.slice a ev.length c) z1 W := ⟨bo_keepC HO6 (KeepC.of bW), HX1.kept bW, HX2.kept bW, HL, HD, by rw [hg]; exact B6.trans (bW.mono (by omega))⟩
    generalize w6.heap.size = D at *
    have hgD : g < D := by omega
    have hq5 : q5 + 1 < D := by omega
    replace hs6 := Lib.hid hs6
    replace hW := Lib.hid hW
    have HIT : Calls Tryd.prog 124 #[.func (.yield (D + 1)) #[] #[], .pointer (some ⟨q5, 0, none⟩), .pointer (some ⟨q5 + 1, 0, none⟩)] W fun e w' => (∃ v, e = .returned v) ∧ AtJ w B q5 (q5 + 1) D (D + 1) (RL .ready) (.slice a ev.length c) (z1 ++ evL ev) w' := by
      by_cases h0 : ev = []
      · subst h0
        refine (chunk_nil (D + 1) q5 (q5 + 1) a c W HJ0.x1).mono ?_
        rintro e w' ⟨hv, rfl⟩
        exact ⟨hv, by simpa [evL] using HJ0⟩
      · obtain ⟨b, o, rfl, hbl, hat⟩ := h.at (k := 0) (List.length_pos_iff.2 h0)
        have hend : ev.take (3 * ((ev.length + 2) / 3)) = ev := List.take_of_length_le (by omega)
        refine (chunk_it (D + 1) q5 (q5 + 1) b o ev.length c (by omega) (fun k W => AtJ w B q5 (q5 + 1) D (D + 1) (RL .ready) (.slice (some ⟨b, o, none⟩) ev.length c) (z1 ++ evL (ev.take (3 * k))) W) (fun k W h => h.x1) (fun k W h => h.x2)
          (fun k W h => h.keepC (KeepC.drew W) h.lp h.dm ((Below.refl _ _).drew)) hc ?_ W (by simpa [evL] using HJ0)).mono ?_
        · intro k W HJ hk
          obtain ⟨m, hm⟩ : ∃ m, (ev.drop (3 * k)).take 3 = m := ⟨_, rfl⟩
          have hml : m.length = min 3 (ev.length - 3 * k) := by rw [← hm, List.length_take, List.length_drop]
          have hm0 : 0 < m.length := by omega
          have hm3 : m.length ≤ 3 := by omega
          have hstep := evL_step ev k (by omega)
          rw [hm, evL_few m hm0 hm3] at hstep
          have hme : ∀ j : Nat, 0 ≤ m.getD j 0 ∧ m.getD j 0 ≤ 5 := fun j => by
            rw [List.getD_eq_getElem?_getD]
            cases hj : m[j]? with
            | none => exact ⟨by decide, by decide⟩
            | some v =>
              have hv := List.mem_of_getElem? hj
              rw [← hm] at hv
              exact he v (List.mem_of_mem_drop (List.mem_of_mem_take hv))
          have hmI : IvAt W b (o + 3 * k) m := fun j hj => by
            have e1 : ev[3 * k + j]? = m[j]? := by rw [← hm, List.getElem?_take, if_pos (by omega), List.getElem?_drop]
            have hj2 : 3 * k + j < ev.length := by omega
            rw [List.getElem?_eq_getElem hj2, List.getElem?_eq_getElem hj] at e1
            have e2 := (hat (3 * k + j) hj2).below HJ.be (by omega)
            rw [Option.some.inj e1] at e2
            rw [show o + 3 * k + j * 1 = o + (3 * k + j) * 1 by omega]
            exact e2
          obtain ⟨G3, hG3⟩ : ∃ G3, g3 (m.getD 0 0) (m.getD 1 0) (m.getD 2 0) = G3 := ⟨_, rfl⟩
          have HJN : Hid (∀ W, Calls Tryd.prog 114 #[.agg (p3 m)] W fun e w' => e = .returned (.int .i64 (G3 : Nat)) ∧ Below W.heap.size W w') := fun W => by rw [← hG3]; exact join_any (m.getD 0 0) (m.getD 1 0) (m.getD 2 0) (hme 0) (hme 1) (hme 2) W
          rw [hG3] at hstep
          have HMU := Lib.hid (fun W => HM1.out G3 W (by rw [← hG3]; exact (g3_lt (hme 0) (hme 1) (hme 2)).1))
          have hyl : (z1 ++ evL (ev.take (3 * k))).length ≤ 1000 := by
            rw [List.length_append, evL_len, List.length_take]
            omega
          have hnext : Hid (z1 ++ evL (ev.take (3 * (k + 1))) = (z1 ++ evL (ev.take (3 * k))) ++ putL G3 1) := by
            show _ = _
            rw [show 3 * (k + 1) = 3 * k + 3 by omega, hstep, List.append_assoc]
          rw [← hml, hnext.out]
          generalize z1 ++ evL (ev.take (3 * k)) = yk at *
          have hp1 : (putL G3 1).length = 1 := putL_length _ _
          generalize putL G3 1 = yb at *
          clear hstep hnext hG3 hend HJ0 hme
          replace hml := Lib.hid hml
          clear hm
          refine yield_of hRL HJ.lp rfl ?_
          gi_wp2
          refine ⟨HJ.lp, ?_⟩
          have hLs := (Array.getElem?_eq_some_iff.1 HJ.lp).1
          have HJ1 : AtJ w B q5 (q5 + 1) D (D + 1) (RL .busy) (.slice (some ⟨b, o, none⟩) ev.length c) yk (W.putObj (D + 1) (.loop (RL .busy))) := HJ.keepC (KeepC.putLoop _ HJ.lp) (World.putObj_heap_same hLs) ((World.putObj_heap_other (by omega)).trans HJ.dm) (belowPut _ (by omega) HJ.lp)
          have hmI1 : IvAt (W.putObj (D + 1) (.loop (RL .busy))) b (o + 3 * k) m := hmI.below (belowPut (n₀ := w.heap.size) _ (by omega) HJ.lp) hbl
          generalize W.putObj (D + 1) (.loop (RL .busy)) = W1 at *
          have hZ := Blk.new W1 217 #[.int .i64 0, .int .i64 0, .int .i64 0]
          have bZ : Below W1.heap.size W1 (W1.alloc (.cells #[.int .i64 0, .int .i64 0, .int .i64 0] 217)) := (Below.refl _ _).alloc (Nat.le_refl _) _
          have HJ2 := HJ1.of bZ
          have hmI2 : IvAt (W1.alloc (.cells #[.int .i64 0, .int .i64 0, .int .i64 0] 217)) b (o + 3 * k) m := hmI1.below (bZ.mono HJ1.be.size) hbl
          have hGs : w.heap.size ≤ W1.heap.size := HJ1.be.size
          clear HJ hmI HJ1 hmI1 bZ
          generalize hW2 : W1.alloc (.cells #[.int .i64 0, .int .i64 0, .int .i64 0] 217) = W2 at *
          obtain ⟨G, hG⟩ : ∃ G, W1.heap.size = G := ⟨_, rfl⟩
          rw [hG] at hZ hGs
          gi_wp2_with (first
            | (refine copyR m rfl rfl rfl rfl hZ hmI2 hm3 ?_; intro W3 hP g3' b3; have HJ3 : AtJ w B q5 (q5 + 1) D (D + 1) (RL .busy) (.slice (some ⟨b, o, none⟩) ev.length c) yk W3 := HJ2.grown g3' hZ (by decide) (by decide) (by decide) (by omega))
            | (refine loadR (k := 0) 217 (p3 m) rfl rfl rfl hP (by kernel_rfl) (by kernel_rfl) rfl ?_)
            | (refine ⟨trivial, rfl, ?_⟩; gi_at_call 114; refine (CallsIn.inRound (D + 1) (callsIn_wide.2 (HJN.out _))).mono ?_; rintro e W4 ⟨rfl, b4⟩; have HJ4 := HJ3.of b4)
            | (refine ⟨trivial, rfl, ?_⟩; gi_at_call 112; refine (CallsIn.inRound (D + 1) (callsIn_wide.2 (HMU.out _))).mono ?_; rintro e W5 ⟨rfl, b5⟩; have HJ5 := HJ4.of b5)
            | (refine ⟨trivial, rfl, ?_⟩; gi_at_call 92; refine (CallsIn.inRound (D + 1) (callsIn_wide.2 (write_bo B yk yb _ HJ5.bo (by omega) (Nat.le_of_lt (bo_lt HJ5.bo))))).mono ?_; rintro e W6 ⟨rfl, HO6, b6', K6⟩))
          have hl6 := K6.loop HJ5.lp
          have HJ6 : AtJ w B q5 (q5 + 1) D (D + 1) (RL .busy) (.slice (some ⟨b, o, none⟩) ev.length c) (yk ++ yb) W6 := ⟨HO6, K6.blk HJ5.x1 (by decide) (by decide), K6.blk HJ5.x2 (by decide) (by decide), hl6, K6.mark HJ5.dm, HJ5.be.trans (b6'.mono (by omega))⟩
          exact ⟨hl6, rfl, HJ6.keepC (KeepC.putLoop _ hl6) (World.putObj_heap_same (Array.getElem?_eq_some_iff.1 hl6).1) ((World.putObj_heap_other (by omega)).trans HJ6.dm) (belowPut _ (by omega) hl6)⟩
        · rintro e w' ⟨hv, hJ⟩
          rw [hend] at hJ
          exact ⟨hv, hJ⟩
    refine HIT.mono ?_
    rintro e W2 ⟨hv, HJ2⟩
    refine ⟨hv, HJ2.lp, ?_⟩
    have HO7 := bo_keepC HJ2.bo (KeepC.putLoop (.loop (RL .exhausted)) HJ2.lp)
    have HD7 : (W2.putObj (D + 1) (.loop (RL .exhausted))).heap[D]? = some (.deferred (some [])) := (World.putObj_heap_other (by omega)).trans HJ2.dm
    have B7 : Below g w (W2.putObj (D + 1) (.loop (RL .exhausted))) := by
      have q := HJ2.be
      rw [hg] at q
      exact q.trans (belowPut _ (by omega) HJ2.lp)
    rw [← HAW.out] at HO7
    generalize W2.putObj (D + 1) (.loop (RL .exhausted)) = w7 at *
    have HST := Lib.hid (string_bo HO7 hne)
    clear HIT HJ0 HJ2 HL HD bW hRL HO6 HX1 HX2 b6 HM1
    go_wp2_with fail
    refine HST.out.mono ?_
    rintro e w8 ⟨rfl, b8, K8⟩
    have HD8 := K8.mark HD7
    have B8 := B7.trans (b8.mono (Nat.le_of_lt hgB))
    go_wp2
    refine ret_marks HD8 (results_tmp rfl _ _ _) ⟨rfl, ?_⟩
    rw [hg]
    exact B8.trans (belowPut _ (by omega) HD8)
  · have q0 : IntKind.i64.wrap ((ev.length : Int) + 8192) = (Y : Int) := by rw [hcn, IntKind.wrap_i64] <;> simp <;> omega
    clear hcn
    go_upto_region 5 with (fail)
    generalize w1.alloc (.cells #[.pointer none, .slice none 0 0] 188) = w2 at *
    refine wp_region_noPanic ?_
    refine wp_region_held_drew (S := (fun w' => Blk w' g 92 #[.bool true, .int .i64 (F : Nat), .slice a ev.length c])) (by kernel_rfl) ?_ (fun hHeld => ?_)
    · exact HA1
    refine wpAnyH_take (i := 0) (v := ?_) rfl (by kernel_rfl) (by kernel_rfl) (by kernel_rfl) (fun _ _ _ h => h) (Or.inl ⟨by rfl, ?_⟩) (by assumption) ?_
    rotate_left
    · (intro w hSw; (try dsimp only at hSw); go_simp; (try with_reducible rfl))
    (try simp only [Act.put, List.getElem_toArray, List.getElem_cons_zero, List.getElem_cons_succ, List.setIfInBounds_toArray, List.set_cons_zero, List.set_cons_succ])
    refine wpAnyH_take (i := 2) (v := ?_) rfl (by kernel_rfl) (by kernel_rfl) (by kernel_rfl) (fun _ _ _ h => h) (Or.inl ⟨by rfl, ?_⟩) (by assumption) ?_
    rotate_left
    · (intro w hSw; (try dsimp only at hSw); go_simp; (try with_reducible rfl))
    (try simp only [Act.put, List.getElem_toArray, List.getElem_cons_zero, List.getElem_cons_succ, List.setIfInBounds_toArray, List.set_cons_zero, List.set_cons_succ])
    refine wpAnyH_take (i := 3) (v := .int .i64 (F : Nat)) rfl (by kernel_rfl) (by kernel_rfl) (by kernel_rfl) (fun _ _ _ h => h) (Or.inl ⟨by rfl, fun w hSw => by have c := hSw.cv 1 (.int .i64 (F : Nat)) rfl; go_simp⟩) (by assumption) ?_
    (try simp only [Act.put, List.getElem_toArray, List.getElem_cons_zero, List.getElem_cons_succ, List.setIfInBounds_toArray, List.set_cons_zero, List.set_cons_succ])
    refine wpAnyH_ready (rs := [1]) (by kernel_rfl) (by simp) ?_
    refine AllReadyH.cons rfl (fun K hK => ?_) AllReadyH.nil
    simp only [List.getElem_toArray, List.getElem_cons_zero, List.getElem_cons_succ]
    go_simp
    go_at_call 112; (with_reducible refine (HMY.out _).mono ?_); rintro e w3 ⟨rfl, b3⟩; have HA3 := HA1.drew.kept b3; have HO3 := bo_keepC HBO ((KeepC.drew _).trans (KeepC.of b3)); have B3 := B1.drew.trans (b3.mono (by have := B1.drew.size; omega))
    refine hK.out _ _ ?_ (fun hHeld => ?_)
    · exact HA3
    clear hK K
    (try simp only [Act.put, List.getElem_toArray, List.getElem_cons_zero, List.getElem_cons_succ, List.setIfInBounds_toArray, List.set_cons_zero, List.set_cons_succ])
    refine wpAnyH_ready (rs := [4]) (by kernel_rfl) (by simp) ?_
    refine AllReadyH.cons rfl (fun K hK => ?_) AllReadyH.nil
    simp only [List.getElem_toArray, List.getElem_cons_zero, List.getElem_cons_succ]
    go_simp
    go_at_call 112; (with_reducible refine (HMF.out _).mono ?_); rintro e w4 ⟨rfl, b4⟩; have HA4 := HA3.kept b4; have HO4 := bo_keepC HO3 (KeepC.of b4); have B4 := B3.trans (b4.mono (by have := B3.size; omega))
    refine hK.out _ _ ?_ (fun hHeld => ?_)
    · exact HA4
    clear hK K
    (try simp only [Act.put, List.getElem_toArray, List.getElem_cons_zero, List.getElem_cons_succ, List.setIfInBounds_toArray, List.set_cons_zero, List.set_cons_succ])
    refine wpAnyH_take (i := 5) (v := .string ⟨z1.toArray⟩) rfl (by kernel_rfl) (by kernel_rfl) (by kernel_rfl) (fun _ _ _ h => h) (Or.inl ⟨by rfl, fun w hSw => by go_simp⟩) (by assumption) ?_
    (try simp only [Act.put, List.getElem_toArray, List.getElem_cons_zero, List.getElem_cons_succ, List.setIfInBounds_toArray, List.set_cons_zero, List.set_cons_succ])
    refine wpAnyH_ready (rs := [6]) (by kernel_rfl) (by simp) ?_
    refine AllReadyH.cons rfl (fun K hK => ?_) AllReadyH.nil
    simp only [List.getElem_toArray, List.getElem_cons_zero, List.getElem_cons_succ]
    go_simp
    go_at_call 92; (with_reducible refine (HWB.out z1 _ HO4 (by omega)).mono ?_); rintro e w5 ⟨rfl, HO5, b5, K5⟩; have HA5 := K5.blk HA4 (by decide) (by decide); have B5 := B4.trans b5
    refine hK.out _ _ ?_ (fun hHeld => ?_)
    · exact HA5
    clear hK K
    (try simp only [Act.put, List.getElem_toArray, List.getElem_cons_zero, List.getElem_cons_succ, List.setIfInBounds_toArray, List.set_cons_zero, List.set_cons_succ])
    refine wpAnyH_done (by kernel_rfl) ?_ _
    refine NoPanic.normal ?_
    clear HBO HA1 HA3 HA4 HO3 HO4 b3 b4 B3 K5 HMF HMY p1 HWB zl1 b5 B1
    have m1 := HA5.cv 2 (.slice a ev.length c) rfl
    have hs5 := B5.size
    have HCH := Lib.hid (chunk_any a ev.length c w5)
    go_wp2_with fail
    refine HCH.out.mono ?_
    rintro e w6 ⟨rfl, HX1, HX2, b6, hs6⟩
    have HO6 := bo_keepC HO5 (KeepC.of b6)
    have hB0 : g < w1.heap.size := by omega
    have B6 := B0.trans ((B5.trans (b6.mono (show B ≤ w5.heap.size by omega))).mono (Nat.le_of_lt hgB))
    clear HCH m1 HO5 HA5 B4 B5
    go_wp2_with fail
    have hB6 : B ≤ w6.heap.size := by omega
    generalize w5.heap.size = q5 at *
    refine rf_outer rfl (enters_of Tryd.func124 (by kernel_rfl) rfl) ?_
    intro fn RL W hRL HL HD bW hW
    have HJ0 : AtJ w B q5 (q5 + 1) w6.heap.size (w6.heap.size + 1) (RL .ready) (.slice a ev.length c) z1 W := ⟨bo_keepC HO6 (KeepC.of bW), HX1.kept bW, HX2.kept bW, HL, HD, by rw [hg]; exact B6.trans (bW.mono (by omega))⟩
    generalize w6.heap.size = D at *
    have hgD : g < D := by omega
    have hq5 : q5 + 1 < D := by omega
    replace hs6 := Lib.hid hs6
    replace hW := Lib.hid hW
    have HIT : Calls Tryd.prog 124 #[.func (.yield (D + 1)) #[] #[], .pointer (some ⟨q5, 0, none⟩), .pointer (some ⟨q5 + 1, 0, none⟩)] W fun e w' => (∃ v, e = .returned v) ∧ AtJ w B q5 (q5 + 1) D (D + 1) (RL .ready) (.slice a ev.length c) (z1 ++ evL ev) w' := by
      by_cases h0 : ev = []
      · subst h0
        refine (chunk_nil (D + 1) q5 (q5 + 1) a c W HJ0.x1).mono ?_
        rintro e w' ⟨hv, rfl⟩
        exact ⟨hv, by simpa [evL] using HJ0⟩
      · obtain ⟨b, o, rfl, hbl, hat⟩ := h.at (k := 0) (List.length_pos_iff.2 h0)
        have hend : ev.take (3 * ((ev.length + 2) / 3)) = ev := List.take_of_length_le (by omega)
        refine (chunk_it (D + 1) q5 (q5 + 1) b o ev.length c (by omega) (fun k W => AtJ w B q5 (q5 + 1) D (D + 1) (RL .ready) (.slice (some ⟨b, o, none⟩) ev.length c) (z1 ++ evL (ev.take (3 * k))) W) (fun k W h => h.x1) (fun k W h => h.x2)
          (fun k W h => h.keepC (KeepC.drew W) h.lp h.dm ((Below.refl _ _).drew)) hc ?_ W (by simpa [evL] using HJ0)).mono ?_
        · intro k W HJ hk
          obtain ⟨m, hm⟩ : ∃ m, (ev.drop (3 * k)).take 3 = m := ⟨_, rfl⟩
          have hml : m.length = min 3 (ev.length - 3 * k) := by rw [← hm, List.length_take, List.length_drop]
          have hm0 : 0 < m.length := by omega
          have hm3 : m.length ≤ 3 := by omega
          have hstep := evL_step ev k (by omega)
          rw [hm, evL_few m hm0 hm3] at hstep
          have hme : ∀ j : Nat, 0 ≤ m.getD j 0 ∧ m.getD j 0 ≤ 5 := fun j => by
            rw [List.getD_eq_getElem?_getD]
            cases hj : m[j]? with
            | none => exact ⟨by decide, by decide⟩
            | some v =>
              have hv := List.mem_of_getElem? hj
              rw [← hm] at hv
              exact he v (List.mem_of_mem_drop (List.mem_of_mem_take hv))
          have hmI : IvAt W b (o + 3 * k) m := fun j hj => by
            have e1 : ev[3 * k + j]? = m[j]? := by rw [← hm, List.getElem?_take, if_pos (by omega), List.getElem?_drop]
            have hj2 : 3 * k + j < ev.length := by omega
            rw [List.getElem?_eq_getElem hj2, List.getElem?_eq_getElem hj] at e1
            have e2 := (hat (3 * k + j) hj2).below HJ.be (by omega)
            rw [Option.some.inj e1] at e2
            rw [show o + 3 * k + j * 1 = o + (3 * k + j) * 1 by omega]
            exact e2
          obtain ⟨G3, hG3⟩ : ∃ G3, g3 (m.getD 0 0) (m.getD 1 0) (m.getD 2 0) = G3 := ⟨_, rfl⟩
          have HJN : Hid (∀ W, Calls Tryd.prog 114 #[.agg (p3 m)] W fun e w' => e = .returned (.int .i64 (G3 : Nat)) ∧ Below W.heap.size W w') := fun W => by rw [← hG3]; exact join_any (m.getD 0 0) (m.getD 1 0) (m.getD 2 0) (hme 0) (hme 1) (hme 2) W
          rw [hG3] at hstep
          have HMU := Lib.hid (fun W => HM1.out G3 W (by rw [← hG3]; exact (g3_lt (hme 0) (hme 1) (hme 2)).1))
          have hyl : (z1 ++ evL (ev.take (3 * k))).length ≤ 1000 := by
            rw [List.length_append, evL_len, List.length_take]
            omega
          have hnext : Hid (z1 ++ evL (ev.take (3 * (k + 1))) = (z1 ++ evL (ev.take (3 * k))) ++ putL G3 1) := by
            show _ = _
            rw [show 3 * (k + 1) = 3 * k + 3 by omega, hstep, List.append_assoc]
          rw [← hml, hnext.out]
          generalize z1 ++ evL (ev.take (3 * k)) = yk at *
          have hp1 : (putL G3 1).length = 1 := putL_length _ _
          generalize putL G3 1 = yb at *
          clear hstep hnext hG3 hend HJ0 hme
          replace hml := Lib.hid hml
          clear hm
          refine yield_of hRL HJ.lp rfl ?_
          gi_wp2
          refine ⟨HJ.lp, ?_⟩
          have hLs := (Array.getElem?_eq_some_iff.1 HJ.lp).1
          have HJ1 : AtJ w B q5 (q5 + 1) D (D + 1) (RL .busy) (.slice (some ⟨b, o, none⟩) ev.length c) yk (W.putObj (D + 1) (.loop (RL .busy))) := HJ.keepC (KeepC.putLoop _ HJ.lp) (World.putObj_heap_same hLs) ((World.putObj_heap_other (by omega)).trans HJ.dm) (belowPut _ (by omega) HJ.lp)
          have hmI1 : IvAt (W.putObj (D + 1) (.loop (RL .busy))) b (o + 3 * k) m := hmI.below (belowPut (n₀ := w.heap.size) _ (by omega) HJ.lp) hbl
          generalize W.putObj (D + 1) (.loop (RL .busy)) = W1 at *
          have hZ := Blk.new W1 217 #[.int .i64 0, .int .i64 0, .int .i64 0]
          have bZ : Below W1.heap.size W1 (W1.alloc (.cells #[.int .i64 0, .int .i64 0, .int .i64 0] 217)) := (Below.refl _ _).alloc (Nat.le_refl _) _
          have HJ2 := HJ1.of bZ
          have hmI2 : IvAt (W1.alloc (.cells #[.int .i64 0, .int .i64 0, .int .i64 0] 217)) b (o + 3 * k) m := hmI1.below (bZ.mono HJ1.be.size) hbl
          have hGs : w.heap.size ≤ W1.heap.size := HJ1.be.size
          clear HJ hmI HJ1 hmI1 bZ
          generalize hW2 : W1.alloc (.cells #[.int .i64 0, .int .i64 0, .int .i64 0] 217) = W2 at *
          obtain ⟨G, hG⟩ : ∃ G, W1.heap.size = G := ⟨_, rfl⟩
          rw [hG] at hZ hGs
          gi_wp2_with (first
            | (refine copyR m rfl rfl rfl rfl hZ hmI2 hm3 ?_; intro W3 hP g3' b3; have HJ3 : AtJ w B q5 (q5 + 1) D (D + 1) (RL .busy) (.slice (some ⟨b, o, none⟩) ev.length c) yk W3 := HJ2.grown g3' hZ (by decide) (by decide) (by decide) (by omega))
            | (refine loadR (k := 0) 217 (p3 m) rfl rfl rfl hP (by kernel_rfl) (by kernel_rfl) rfl ?_)
            | (refine ⟨trivial, rfl, ?_⟩; gi_at_call 114; refine (CallsIn.inRound (D + 1) (callsIn_wide.2 (HJN.out _))).mono ?_; rintro e W4 ⟨rfl, b4⟩; have HJ4 := HJ3.of b4)
            | (refine ⟨trivial, rfl, ?_⟩; gi_at_call 112; refine (CallsIn.inRound (D + 1) (callsIn_wide.2 (HMU.out _))).mono ?_; rintro e W5 ⟨rfl, b5⟩; have HJ5 := HJ4.of b5)
            | (refine ⟨trivial, rfl, ?_⟩; gi_at_call 92; refine (CallsIn.inRound (D + 1) (callsIn_wide.2 (write_bo B yk yb _ HJ5.bo (by omega) (Nat.le_of_lt (bo_lt HJ5.bo))))).mono ?_; rintro e W6 ⟨rfl, HO6, b6', K6⟩))
          have hl6 := K6.loop HJ5.lp
          have HJ6 : AtJ w B q5 (q5 + 1) D (D + 1) (RL .busy) (.slice (some ⟨b, o, none⟩) ev.length c) (yk ++ yb) W6 := ⟨HO6, K6.blk HJ5.x1 (by decide) (by decide), K6.blk HJ5.x2 (by decide) (by decide), hl6, K6.mark HJ5.dm, HJ5.be.trans (b6'.mono (by omega))⟩
          exact ⟨hl6, rfl, HJ6.keepC (KeepC.putLoop _ hl6) (World.putObj_heap_same (Array.getElem?_eq_some_iff.1 hl6).1) ((World.putObj_heap_other (by omega)).trans HJ6.dm) (belowPut _ (by omega) hl6)⟩
        · rintro e w' ⟨hv, hJ⟩
          rw [hend] at hJ
          exact ⟨hv, hJ⟩
    refine HIT.mono ?_
    rintro e W2 ⟨hv, HJ2⟩
    refine ⟨hv, HJ2.lp, ?_⟩
    have HO7 := bo_keepC HJ2.bo (KeepC.putLoop (.loop (RL .exhausted)) HJ2.lp)
    have HD7 : (W2.putObj (D + 1) (.loop (RL .exhausted))).heap[D]? = some (.deferred (some [])) := (World.putObj_heap_other (by omega)).trans HJ2.dm
    have B7 : Below g w (W2.putObj (D + 1) (.loop (RL .exhausted))) := by
      have q := HJ2.be
      rw [hg] at q
      exact q.trans (belowPut _ (by omega) HJ2.lp)
    rw [← HAW.out] at HO7
    generalize W2.putObj (D + 1) (.loop (RL .exhausted)) = w7 at *
    have HST := Lib.hid (string_bo HO7 hne)
    clear HIT HJ0 HJ2 HL HD bW hRL HO6 HX1 HX2 b6 HM1
    go_wp2_with fail
    refine HST.out.mono ?_
    rintro e w8 ⟨rfl, b8, K8⟩
    have HD8 := K8.mark HD7
    have B8 := B7.trans (b8.mono (Nat.le_of_lt hgB))
    go_wp2
    refine ret_marks HD8 (results_tmp rfl _ _ _) ⟨rfl, ?_⟩
    rw [hg]
    exact B8.trans (belowPut _ (by omega) HD8)


end Go.Proofs.YtdjljnpbnhampaaDoor

namespace Go.Proofs.YtdjljnpbnhampaaDoor
open Go.RowKit
set_option linter.unusedVariables false

/-- What a reader's error says: nothing (0, -1), or an At. -/
def ErrAs (w : World) (er : Value) (e pl : Int) : Prop := (er = .nilIface ∧ e = 0 ∧ pl = -1) ∨ (e ≠ 0 ∧ ∃ q, er = .iface 142 (.pointer (some ⟨q, 0, none⟩)) ∧ Flt w q e pl)

theorem ErrAs.below {w w' : World} {er : Value} {e pl : Int} (h : ErrAs w er e pl) (hb : Below w.heap.size w w') : ErrAs w' er e pl := by
  rcases h with h | ⟨he, q, hq, hf⟩
  · exact Or.inl h
  · exact Or.inr ⟨he, q, hq, hf.below hb⟩

theorem ErrAs.nil {w : World} : ErrAs w .nilIface 0 (-1) := Or.inl ⟨rfl, rfl, rfl⟩

/-- A reader's answer: a value, and its error. -/
def ReadsAs (X : Array Value) (e pl : Int) (w : World) (r : Ending) (w' : World) : Prop := ∃ er, r = .returned (.tuple #[.agg X, er]) ∧ ErrAs w' er e pl ∧ Below w.heap.size w w'


end Go.Proofs.YtdjljnpbnhampaaDoor

namespace Go.Proofs.YtdjljnpbnhampaaDoor
open Go.RowKit
attribute [local go_sem ↓] Go.wp_at_zero Go.wp_at_succ
set_option linter.unusedSimpArgs false
set_option linter.unusedVariables false
set_option maxRecDepth 100000

theorem Tryd.mhZero : (Tryd.prog.info? 92).map (·.zero) = some (some (.agg (mvC zMvH))) := by kernel_rfl

/-- A list of attributes lies here, each with its events. -/
structure MvsIn (w : World) (a : Option Addr) (hs : List MvH) : Prop where
  row : MhIn w a hs
  ev : ∀ h ∈ hs, IvIn w h.a h.x.ev ∧ h.x.ev.length ≤ h.c ∧ h.c ≤ maxLen

theorem MvsIn.below {w w' : World} {a : Option Addr} {hs : List MvH} (h : MvsIn w a hs) (hb : Below w.heap.size w w') : MvsIn w' a hs := ⟨h.row.below hb, fun x hx => ⟨(h.ev x hx).1.below hb, (h.ev x hx).2⟩⟩

def xs (hs : List MvH) : List Mv := hs.map (·.x)

theorem xs_len (hs : List MvH) : (xs hs).length = hs.length := by simp [xs]

theorem xs_get (hs : List MvH) (k : Nat) (hk : k < hs.length) : (xs hs)[k]'(by rw [xs_len]; exact hk) = hs[k].x := by simp [xs]

theorem xs_take (hs : List MvH) (k : Nat) : xs (hs.take k) = (xs hs).take k := by simp [xs, List.map_take]

/-- An error of Write: none, one at an attribute, or one alone. -/
def ErrAs3 (w : World) (er : Value) (e pl : Int) : Prop := ErrAs w er e pl ∨ (er = .iface 35 (.int .i64 e) ∧ e ≠ 0 ∧ pl = -1)

theorem ErrAs3.below {w w' : World} {er : Value} {e pl : Int} (h : ErrAs3 w er e pl) (hb : Below w.heap.size w w') : ErrAs3 w' er e pl := by
  rcases h with h | h
  · exact Or.inl (h.below hb)
  · exact Or.inr h

/-- What is written: nothing where it may not be. -/
def mvX (l : List Mv) : List UInt8 := if (mvE l).1 = 0 then mvW l else []

theorem mvX_bad {l : List Mv} {e p : Int} (h : mvE l = (e, p)) (he : e ≠ 0) : mvX l = [] := by unfold mvX; rw [h]; exact if_neg he

theorem mvX_ok {l : List Mv} {p : Int} (h : mvE l = (0, p)) : mvX l = mvW l := by unfold mvX; rw [h]; exact if_pos rfl

theorem attrs_at (hs : List MvH) (k : Nat) (hk : k < hs.length) : attrsW (xs (hs.take (k + 1))) = attrsW (xs (hs.take k)) ++ attrW hs[k].x := by
  rw [xs_take, xs_take, attrsW_take _ k (by rw [xs_len]; exact hk), xs_get]

theorem mvWrite_long (a : Option Addr) (c : Nat) (n : Nat) (hn : 40 < n) (w : World) :
    Calls Tryd.prog 64 #[.slice a n c] w fun e w' => e = .returned (.tuple #[.string ⟨#[]⟩, .iface 35 (.int .i64 4)]) ∧ Below w.heap.size w w' := by
  have q1 : (40 : Int) < (n : Int) := by omega
  have q2 : decide ((40 : Int) < (n : Int)) = true := decide_eq_true q1
  go_enter Tryd.func64, Tryd.ntmps64
  go_wp2
  go_ret2
  exact ⟨rfl, Below.refl _ _⟩

theorem mvWrite_nil (a : Option Addr) (c : Nat) (w : World) :
    Calls Tryd.prog 64 #[.slice a 0 c] w fun e w' => e = .returned (.tuple #[.string ⟨#[0, 0, 0]⟩, .nilIface]) ∧ Below w.heap.size w w' := by
  go_enter Tryd.func64, Tryd.ntmps64
  go_wp2
  go_ret2
  exact ⟨rfl, Below.refl _ _⟩

set_option maxHeartbeats 6400000 in
theorem mvWrite_some (a : Option Addr) (c : Nat) (hs : List MvH) (m : Nat) (hm : m ≤ hs.length) (hlo : 0 < hs.length) (hhi : ¬ 40 < hs.length) (hok : ∀ (k : Nat) (hk : k < hs.length), k < m → okMv hs[k].x = true) (X : List UInt8) (e0 pl : Int)
    (hend : (m = hs.length ∧ X = [0, 1, 2] ++ attrsW (xs hs) ++ [0, 0, 0, 0] ∧ e0 = 0 ∧ pl = -1) ∨ (∃ hk : m < hs.length, okMv hs[m].x = false ∧ X = [] ∧ e0 = 1 ∧ pl = m)) (w : World) (h : MvsIn w a hs) :
    Calls Tryd.prog 64 #[.slice a hs.length c] w fun e w' => ∃ er, e = .returned (.tuple #[.string ⟨X.toArray⟩, er]) ∧ ErrAs w' er e0 pl ∧ Below w.heap.size w w' := by
  have HB0 := bo_new w
  have B0 : Below w.heap.size w (w.alloc (.cells #[.pointer none, .slice none 0 0] 188)) := (Below.refl _ _).alloc (Nat.le_refl _) _
  have HSL : Hid (∀ k, k ≤ m → (attrsW (xs (hs.take k))).length ≤ 138 * k) := fun k hk => by
    have q := attrsW_le (xs (hs.take k)) (fun x hx => by
      obtain ⟨y, hy, rfl⟩ := List.mem_map.1 hx
      obtain ⟨j, hj, rfl⟩ := List.mem_take_iff_getElem.1 hy
      exact hok j (by omega) (by omega))
    rw [xs_len, List.length_take] at q
    omega
  have HOK := Lib.hid hok
  have HT := Lib.hid (attrs_at hs)
  have HZ : Hid (attrsW (xs (hs.take 0)) = []) := by show _ = _; rw [List.take_zero]; rfl
  have HWS : Hid (∀ (y z : List UInt8) (W : World), BO w.heap.size y W → y.length + z.length ≤ 10000 → Calls Tryd.prog 92 #[.pointer (some ⟨w.heap.size, 0, none⟩), .string ⟨z.toArray⟩] W fun e w' => e = .returned (.tuple #[.int .i64 z.length, .nilIface]) ∧ BO w.heap.size (y ++ z) w' ∧ Below w.heap.size W w' ∧ KeepO W w') := fun y z W hB hz => write_bo w.heap.size y z W hB (by omega) (Nat.le_of_lt (bo_lt hB))
  have d1 : decide ((40 : Int) < (hs.length : Int)) = false := decide_eq_false (by omega)
  have d2 : ((hs.length : Int) == 0) = false := beq_eq_false_iff_ne.2 (by omega)
  clear hok
  go_enter Tryd.func64, Tryd.ntmps64
  go_upto_region 6 with (fail)
  obtain ⟨g, hg⟩ : ∃ g, w.heap.size = g := ⟨_, rfl⟩
  rw [hg] at HB0 B0 HWS ⊢
  generalize w.alloc (.cells #[.pointer none, .slice none 0 0] 188) = w1 at *
  have H3 := Lib.hid (HWS.out [] [0, 1, 2] w1 HB0 (by decide))
  go_wp2_with fail
  refine H3.out.mono ?_
  rintro e w2 ⟨rfl, HB2, b2, K2⟩
  rw [List.nil_append] at HB2
  have B2 := B0.trans b2
  clear H3 HB0 B0 b2 K2
  go_wp2_with fail
  go_loopw [19] (fun i wr => ∃ k : Nat, k ≤ m ∧ i = .int .i64 k ∧ BO g ([0, 1, 2] ++ attrsW (xs (hs.take k))) wr ∧ Below g w wr) (fun i _ => hs.length - (intOf i).toNat)
  case atStart => exact ⟨0, by omega, rfl, by rw [HZ.out, List.append_nil]; exact HB2, B2⟩
  case round =>
    obtain ⟨k, hk, rfl, HBk, Bk⟩ := hrel
    have hsk := HSL.out k hk
    have hsw : g ≤ wr.heap.size := by rw [← hg]; exact Bk.size
    by_cases hlt : k < hs.length
    · have Bk2 : Below w.heap.size w wr := by rw [hg]; exact Bk
      have hIk := h.below Bk2
      obtain ⟨b, lo, rfl, hbl, hat⟩ := hIk.row.at hlt
      have q1 : (k : Int) < (hs.length : Int) := by omega
      have q2 : decide ((k : Int) < (hs.length : Int)) = true := decide_eq_true q1
      have q3 : (0 : Int) ≤ (k : Int) := by omega
      have HK := hat k hlt
      obtain ⟨hev, hcap, hcm⟩ := hIk.ev hs[k] (List.getElem_mem hlt)
      have HA4 := Blk.new wr 92 (mvC zMvH)
      have B4 := Bk.alloc hsw (.cells (mvC zMvH) 92)
      have hb4 : Below wr.heap.size wr (wr.alloc (.cells (mvC zMvH) 92)) := (Below.refl _ _).alloc (Nat.le_refl _) _
      have HR : Hid (∀ W, Below wr.heap.size wr W → Calls Tryd.prog 22 #[.agg (mvC hs[k])] W fun e w' => e = .returned (.bool (okMv hs[k].x)) ∧ Below W.heap.size W w') := fun W hb => mvRight_any hs[k].x hs[k].a hs[k].c W (hev.below hb) (Nat.le_trans hcap hcm)
      have HX : Hid (∀ W, okMv hs[k].x = true → Below wr.heap.size wr W → Calls Tryd.prog 93 #[.agg (mvC hs[k])] W fun e w' => e = .returned (.string ⟨(attrW hs[k].x).toArray⟩) ∧ Below W.heap.size W w') := fun W hx hb => attrText_any hs[k].x hs[k].a hs[k].c hcap W hx (hev.below hb)
      have hHT := Lib.hid (HT.out k hlt)
      have hOK := Lib.hid (fun h => HOK.out k hlt h)
      have hbad : Hid (m = k → okMv hs[k].x = false ∧ X = [] ∧ e0 = 1 ∧ pl = k) := fun e1 => by
        rcases hend with ⟨r1, _⟩ | ⟨hk2, r2, r3, r4, r5⟩
        · omega
        · subst e1
          exact ⟨r2, r3, r4, r5⟩
      have hal : Hid (okMv hs[k].x = true → (attrW hs[k].x).length ≤ 138) := fun q => by
        rw [attrW_len]
        have := okMv_len q
        omega
      generalize hs[k] = x at *
      clear hat Bk hend HT HOK hIk hev hcap hcm Bk2 HSL
      go_upto_region 10 with (first
        | (refine load_cells (B := b) (k := lo + k * 3) 92 (mvC x) (by rfl) rfl rfl HK (by kernel_rfl) (by kernel_rfl) ?_)
        | (refine alloc_blk 92 (mvC zMvH) (by rfl) rfl Tryd.mhZero ?_)
        | (refine store_blk (k := 0) 92 (.agg (mvC x)) (mvC x) (by rfl) rfl rfl rfl HA4 (by kernel_rfl) (show (3 : Nat) ≤ 3 from Nat.le_refl 3) (by rfl) (st_whole _ _ rfl) ?_; intro w5 HA5 b5 g5))
      have HB5 : BO g ([0, 1, 2] ++ attrsW (xs (hs.take k))) w5 := isB_below HBk (hb4.trans b5)
      have B5 := B4.trans (b5.mono hsw)
      have b05 := hb4.trans b5
      clear HA4 B4 b5 g5 HK hb4 HBk
      have hyl : ([0, 1, 2] ++ attrsW (xs (hs.take k)) : List UInt8).length ≤ 3 + 138 * k := by rw [List.length_append]; show 3 + (attrsW (xs (hs.take k))).length ≤ _; omega
      have hnx : Hid ([0, 1, 2] ++ attrsW (xs (hs.take (k + 1))) = ([0, 1, 2] ++ attrsW (xs (hs.take k))) ++ attrW x.x) := by show _ = _; rw [hHT.out, List.append_assoc]
      generalize ([0, 1, 2] ++ attrsW (xs (hs.take k)) : List UInt8) = yk at *
      clear hHT hsk
      have HR5 := Lib.hid (HR.out _ b05)
      by_cases hkm : k < m
      · have hx := hOK.out hkm
        have hxl := hal.out hx
        have HX5 := Lib.hid (fun W => HX.out W hx)
        replace HR : Hid (Calls Tryd.prog 22 #[.agg (mvC x)] w5 fun e w' => e = .returned (.bool true) ∧ Below w5.heap.size w5 w') := by rw [← hx]; exact HR5.out
        clear hbad hOK hx HR5 hal HX
        generalize attrW x.x = AX at *
        go_wp2_with (refine load_blk (k := 0) 92 (mvC x) (by rfl) rfl rfl HA5 (by kernel_rfl) (by kernel_rfl) rfl ?_)
        refine HR.out.mono ?_
        rintro e w6 ⟨rfl, b6⟩
        have HA6 := HA5.kept b6
        have HB6 : BO g yk w6 := isB_below HB5 b6
        have hg5 : g ≤ w5.heap.size := Nat.le_trans hsw b05.size
        have B6 := B5.trans (b6.mono hg5)
        have b06 := b05.trans (b6.mono b05.size)
        have HX6 := Lib.hid (HX5.out _ b06)
        have hg6 : g ≤ w6.heap.size := Nat.le_trans hg5 b6.size
        clear HA5 HB5 B5 b6 HR HX5 b05
        go_wp2_with (refine load_blk (k := 0) 92 (mvC x) (by rfl) rfl rfl HA6 (by kernel_rfl) (by kernel_rfl) rfl ?_)
        refine HX6.out.mono ?_
        rintro e w7 ⟨rfl, b7⟩
        have HB7 : BO g yk w7 := isB_below HB6 b7
        have B7 := B6.trans (b7.mono hg6)
        have HW7 := Lib.hid (HWS.out yk AX w7 HB7 (by omega))
        clear HA6 HB6 B6 b7 HX6 HWS
        go_wp2_with fail
        refine HW7.out.mono ?_
        rintro e w8 ⟨rfl, HB8, b8, K8⟩
        rw [← hnx.out] at HB8
        have B8 := B7.trans b8
        go_wp2
        go_roundw
        case rel => exact ⟨k + 1, by omega, by go_num, HB8, B8⟩
        case measure => simp [intOf]; omega
      · obtain rfl : k = m := by omega
        obtain ⟨hx, rfl, rfl, rfl⟩ := hbad.out rfl
        replace HR : Hid (Calls Tryd.prog 22 #[.agg (mvC x)] w5 fun e w' => e = .returned (.bool false) ∧ Below w5.heap.size w5 w') := by rw [← hx]; exact HR5.out
        clear hbad hOK hx HR5 HX hal
        go_wp2_with (refine load_blk (k := 0) 92 (mvC x) (by rfl) rfl rfl HA5 (by kernel_rfl) (by kernel_rfl) rfl ?_)
        refine HR.out.mono ?_
        rintro e w6 ⟨rfl, b6⟩
        have B6 := B5.trans (b6.mono (Nat.le_trans hsw b05.size))
        have hg6 : g ≤ w6.heap.size := Nat.le_trans (Nat.le_trans hsw b05.size) b6.size
        have F7 : Flt (w6.alloc (.cells #[.int .i64 1, .int .i64 k] 144)) w6.heap.size 1 k := heap_alloc_new w6 _
        have B7 := B6.alloc hg6 (.cells #[.int .i64 1, .int .i64 k] 144)
        go_wp2
        go_ret2
        exact ⟨_, rfl, Or.inr ⟨by decide, _, rfl, F7⟩, by rw [hg]; exact B7⟩
    · obtain rfl : k = hs.length := by omega
      obtain rfl : m = hs.length := by omega
      have q2 : decide ((hs.length : Int) < (hs.length : Int)) = false := decide_eq_false (by omega)
      obtain ⟨hX, rfl, rfl⟩ : X = [0, 1, 2] ++ attrsW (xs hs) ++ [0, 0, 0, 0] ∧ e0 = 0 ∧ pl = -1 := by
        rcases hend with ⟨_, r1, r2, r3⟩ | ⟨hk2, _⟩
        · exact ⟨r1, r2, r3⟩
        · omega
      rw [List.take_length] at HBk hsk
      have HX : Hid ([0, 1, 2] ++ attrsW (xs hs) ++ [0, 0, 0, 0] = X) := hX.symm
      have hXn : X ≠ [] := by rw [hX]; simp
      have hyl : ([0, 1, 2] ++ attrsW (xs hs) : List UInt8).length ≤ 3 + 138 * hs.length := by rw [List.length_append]; show 3 + (attrsW (xs hs)).length ≤ _; omega
      clear hX hend hsk
      generalize ([0, 1, 2] ++ attrsW (xs hs) : List UInt8) = yk at *
      have HW7 := Lib.hid (HWS.out yk [0, 0, 0, 0] wr HBk (by show yk.length + 4 ≤ _; omega))
      clear HWS HSL HOK HT
      go_wp2_with fail
      refine HW7.out.mono ?_
      rintro e w7 ⟨rfl, HB7, b7, K7⟩
      rw [HX.out] at HB7
      have B7 := Bk.trans b7
      have HS8 := Lib.hid (string_bo HB7 hXn)
      go_wp2_with fail
      refine HS8.out.mono ?_
      rintro e w8 ⟨rfl, k8, _⟩
      go_wp2
      go_ret2
      exact ⟨_, rfl, Or.inl ⟨rfl, rfl, rfl⟩, by rw [hg]; exact B7.trans k8⟩

/-- mvrp.Write: the bytes, or what is wrong first. -/
theorem mvWrite_any (a : Option Addr) (c : Nat) (hs : List MvH) (w : World) (h : MvsIn w a hs) :
    Calls Tryd.prog 64 #[.slice a hs.length c] w fun e w' => ∃ er, e = .returned (.tuple #[.string ⟨(mvX (xs hs)).toArray⟩, er]) ∧ ErrAs3 w' er (mvE (xs hs)).1 (mvE (xs hs)).2 ∧ Below w.heap.size w w' := by
  by_cases h1 : 40 < hs.length
  · have e1 := mvE_long (l := xs hs) (by rw [xs_len]; exact h1)
    rw [mvX_bad e1 (by decide), e1]
    refine (mvWrite_long a c hs.length h1 w).mono ?_
    rintro e w' ⟨rfl, hb⟩
    exact ⟨_, rfl, Or.inr ⟨rfl, by decide, rfl⟩, hb⟩
  · by_cases h0 : hs = []
    · subst h0
      refine (mvWrite_nil a c w).mono ?_
      rintro e w' ⟨rfl, hb⟩
      exact ⟨_, rfl, Or.inl (Or.inl ⟨rfl, rfl, rfl⟩), hb⟩
    · have hlo := List.length_pos_iff.2 h0
      have hne : xs hs ≠ [] := by simpa [xs] using h0
      rcases mv_or (xs hs) with ha | ⟨k, hk, hb, ha⟩
      · have e1 := mvE_ok (l := xs hs) (by rw [xs_len]; exact h1) ha
        rw [mvX_ok e1, e1]
        have eW : mvW (xs hs) = [0, 1, 2] ++ attrsW (xs hs) ++ [0, 0, 0, 0] := by unfold mvW; rw [if_neg hne, List.append_assoc]
        rw [eW]
        refine (mvWrite_some a c hs hs.length (Nat.le_refl _) hlo h1 (fun k hk _ => ha _ (List.mem_map.2 ⟨hs[k], List.getElem_mem hk, rfl⟩)) _ 0 (-1) (Or.inl ⟨rfl, rfl, rfl, rfl⟩) w h).mono ?_
        rintro e w' ⟨er, rfl, he, hb⟩
        exact ⟨er, rfl, Or.inl he, hb⟩
      · have e1 := mvE_bad (l := xs hs) (by rw [xs_len]; exact h1) hk hb ha
        rw [mvX_bad e1 (by decide), e1]
        rw [xs_len] at hk
        rw [xs_get hs k hk] at hb
        refine (mvWrite_some a c hs k (Nat.le_of_lt hk) hlo h1 (fun j hj hjk => ha _ (by
          rw [← xs_take]
          exact List.mem_map.2 ⟨hs[j], List.mem_take_iff_getElem.2 ⟨j, by omega, rfl⟩, rfl⟩)) [] 1 k (Or.inr ⟨hk, hb, rfl, rfl, rfl⟩) w h).mono ?_
        rintro e w' ⟨er, rfl, he, hb⟩
        exact ⟨er, rfl, Or.inl he, hb⟩

end Go.Proofs.YtdjljnpbnhampaaDoor

namespace Go.Proofs.YtdjljnpbnhampaaDoor
open Go.RowKit
attribute [local go_sem ↓] Go.wp_at_zero Go.wp_at_succ
set_option linter.unusedSimpArgs false
set_option linter.unusedVariables false
set_option maxRecDepth 100000

theorem bel_drewN (w : World) (q : Nat) : Below w.heap.size w (w.drewN q) := ⟨rfl, rfl, rfl, Nat.le_refl _, fun _ _ => rfl⟩

theorem ivIn_cells {w : World} {b o : Nat} {l : List Int} (h : IvAt w b o l) : ∀ j, j < l.length → w.cell? ⟨b, o + j, none⟩ = some (.int .i64 (l.getD j 0)) := fun j hj => by
  have e := h j hj 0 (.int .i64 l[j]) rfl
  rw [Nat.mul_one, Nat.add_zero] at e
  rw [e, List.getD_eq_getElem?_getD, List.getElem?_eq_getElem hj]
  rfl

theorem intEq_any (a1 a2 : Option Addr) (c1 c2 : Nat) (l1 l2 : List Int) (w : World) (h1 : IvIn w a1 l1) (h2 : IvIn w a2 l2) (m1 : l1.length ≤ maxLen) (m2 : l2.length ≤ maxLen) :
    Calls Tryd.prog 86 #[.slice a1 l1.length c1, .slice a2 l2.length c2] w fun e w' => e = .returned (.bool (decide (l1 = l2))) ∧ Below w.heap.size w w' := by
  have k1 : l1.length ≤ 9223372036854775807 := m1
  have k2 : l2.length ≤ 9223372036854775807 := m2
  by_cases hl : l1.length = l2.length
  · by_cases h0 : l1 = []
    · subst h0
      have h20 : l2 = [] := List.eq_nil_of_length_eq_zero hl.symm
      subst h20
      refine (Tryd.slices_Equal_int_empty a1 a2 c1 0 c2 w (by omega)).mono ?_
      rintro e w' ⟨rfl, rfl⟩
      exact ⟨rfl, Below.refl _ _⟩
    · have hp1 := List.length_pos_iff.2 h0
      obtain ⟨b1, o1, rfl, _, q1⟩ := h1.at hp1
      obtain ⟨b2, o2, rfl, _, q2⟩ := h2.at (show 0 < l2.length by omega)
      refine (Tryd.slices_Equal_int b1 o1 l1.length c1 b2 o2 l2.length c2 l1 l2 w (Nat.le_refl _) (Nat.le_refl _) k1 k2 (ivIn_cells q1) (ivIn_cells q2)).mono ?_
      rintro e w' ⟨rfl, q, rfl⟩
      rw [List.take_length, List.take_length]
      exact ⟨by rw [show (l1 == l2) = decide (l1 = l2) from by rw [Bool.eq_iff_iff]; simp], bel_drewN w q⟩
  · refine (Tryd.slices_Equal_int_lens a1 a2 l1.length c1 l2.length c2 w hl).mono ?_
    rintro e w' ⟨rfl, rfl⟩
    rw [decide_eq_false (fun q => hl (by rw [q]))]
    exact ⟨rfl, Below.refl _ _⟩

set_option maxHeartbeats 1600000 in
theorem sameK_one (x y : MvH) (w : World) (hx : IvIn w x.a x.x.ev) (hy : IvIn w y.a y.x.ev) (mx : x.x.ev.length ≤ maxLen) (my : y.x.ev.length ≤ maxLen) :
    Calls Tryd.prog 95 #[.agg (mvC x), .agg (mvC y)] w fun e w' => e = .returned (.bool (decide (x.x = y.x))) ∧ Below w.heap.size w w' := by
  obtain ⟨⟨a1, f1, e1⟩, p1, c1⟩ := x
  obtain ⟨⟨a2, f2, e2⟩, p2, c2⟩ := y
  simp only at *
  unfold mvC
  simp only
  have hb0 : Below w.heap.size w ((w.alloc (.cells #[.bool a1, .int .i64 f1, .slice p1 e1.length c1] 92)).alloc (.cells #[.bool a2, .int .i64 f2, .slice p2 e2.length c2] 92)) := ((Below.refl _ _).alloc (Nat.le_refl _) _).alloc (by simp) _
  have HE := Lib.hid (intEq_any p1 p2 c1 c2 e1 e2 _ (hx.below hb0) (hy.below hb0) mx my)
  have he : decide ((⟨a1, f1, e1⟩ : Mv) = ⟨a2, f2, e2⟩) = ((a1 == a2) && ((f1 == f2) && decide (e1 = e2))) := by
    by_cases q1 : a1 = a2
    · by_cases q2 : f1 = f2
      · subst q1 q2
        simp
      · rw [decide_eq_false (fun q => q2 (congrArg Mv.first q)), (beq_eq_false_iff_ne.2 q2)]
        simp
    · rw [decide_eq_false (fun q => q1 (congrArg Mv.all q)), (beq_eq_false_iff_ne.2 q1)]
      simp
  rw [he]
  clear he hx hy
  cases hq1 : (a1 == a2) with
  | false =>
    clear HE
    go_enter Tryd.func95, Tryd.ntmps95
    go_wp2
    go_ret
    exact ⟨by simp, hb0⟩
  | true =>
    cases hq2 : (f1 == f2) with
    | false =>
      clear HE
      go_enter Tryd.func95, Tryd.ntmps95
      go_wp2
      go_ret
      exact ⟨by simp, hb0⟩
    | true =>
      have hsz : ((w.alloc (.cells #[.bool a1, .int .i64 f1, .slice p1 e1.length c1] 92)).alloc (.cells #[.bool a2, .int .i64 f2, .slice p2 e2.length c2] 92)).heap.size = w.heap.size + 1 + 1 := by simp
      go_enter Tryd.func95, Tryd.ntmps95
      go_wp2_with fail
      refine HE.out.mono ?_
      rintro e w2 ⟨rfl, b2⟩
      have B2 := hb0.trans (b2.mono hb0.size)
      go_wp2
      go_ret
      exact ⟨by simp, B2⟩

set_option maxHeartbeats 3200000 in
theorem sameK_many (a1 a2 : Option Addr) (c1 c2 : Nat) (h1 h2 : List MvH) (w : World) (H1 : MvsIn w a1 h1) (H2 : MvsIn w a2 h2) (m1 : h1.length ≤ maxLen) (m2 : h2.length ≤ maxLen) :
    Calls Tryd.prog 84 #[.slice a1 h1.length c1, .slice a2 h2.length c2, .func (.func 95) #[] #[]] w fun e w' => e = .returned (.bool (decide (xs h1 = xs h2))) ∧ Below w.heap.size w w' := by
  have k1 : h1.length ≤ 9223372036854775807 := m1
  have k2 : h2.length ≤ 9223372036854775807 := m2
  clear m1 m2
  by_cases hl : h1.length = h2.length
  · have hl3 := Lib.hid hl.symm
    have HIN : Hid (∀ (k : Nat) (hk : k < h1.length), xs h1 = xs h2 → h1[k].x = (h2[k]'(by rw [hl3.out]; exact hk)).x) := fun k hk q => by
      have e1 := xs_get h1 k hk
      have e2 := xs_get h2 k (by rw [hl3.out]; exact hk)
      rw [← e1, ← e2]
      congr 1
    have HEX : Hid ((∀ (k : Nat) (hk : k < h1.length), h1[k].x = (h2[k]'(by rw [hl3.out]; exact hk)).x) → xs h1 = xs h2) := fun q => by
      apply List.ext_getElem
      · rw [xs_len, xs_len, hl]
      · intro k q1 q2
        rw [xs_len] at q1 q2
        rw [xs_get h1 k q1, xs_get h2 k q2]
        exact q k q1
    rw [← hl]
    clear hl k2
    go_enter Tryd.func84, Tryd.ntmps84
    go_wp2_with fail
    go_loopw [17] (fun i wr => ∃ k : Nat, k ≤ h1.length ∧ i = .int .i64 k ∧ (∀ (j : Nat) (hj : j < h1.length), j < k → h1[j].x = (h2[j]'(by rw [hl3.out]; exact hj)).x) ∧ Below w.heap.size w wr) (fun i _ => h1.length - (intOf i).toNat)
    case atStart => exact ⟨0, by omega, rfl, fun j hj q => by omega, Below.refl _ _⟩
    case round =>
      obtain ⟨k, hk, rfl, hall, Bk⟩ := hrel
      by_cases hlt : k < h1.length
      · have I1 := H1.below Bk
        have I2 := H2.below Bk
        have hlt2 : k < h2.length := by rw [hl3.out]; exact hlt
        obtain ⟨b1, o1, rfl, hb1, at1⟩ := I1.row.at hlt
        obtain ⟨b2, o2, rfl, hb2, at2⟩ := I2.row.at hlt2
        have q1 : (k : Int) < (h1.length : Int) := by omega
        have q2 : decide ((k : Int) < (h1.length : Int)) = true := decide_eq_true q1
        have q3 : (0 : Int) ≤ (k : Int) := by omega
        have q4 : IntKind.i64.wrap ((k : Int) + 1) = (k : Int) + 1 := by rw [IntKind.wrap_i64] <;> omega
        have HK1 := at1 k hlt
        have HK2 := at2 k hlt2
        obtain ⟨e1, cp1, cm1⟩ := I1.ev h1[k] (List.getElem_mem hlt)
        obtain ⟨e2, cp2, cm2⟩ := I2.ev h2[k] (List.getElem_mem hlt2)
        have HS : Hid (∀ W, Below wr.heap.size wr W → Calls Tryd.prog 95 #[.agg (mvC h1[k]), .agg (mvC h2[k])] W fun e w' => e = .returned (.bool (decide (h1[k].x = h2[k].x))) ∧ Below W.heap.size W w') := fun W hb => sameK_one h1[k] h2[k] W (e1.below hb) (e2.below hb) (Nat.le_trans cp1 cm1) (Nat.le_trans cp2 cm2)
        have hstep : Hid (h1[k].x = h2[k].x → ∀ (j : Nat) (hj : j < h1.length), j < k + 1 → h1[j].x = (h2[j]'(by rw [hl3.out]; exact hj)).x) := fun q j hj hj2 => by
          by_cases hjk : j = k
          · subst hjk; exact q
          · exact hall j hj (by omega)
        have hno : Hid (¬ h1[k].x = h2[k].x → decide (xs h1 = xs h2) = false) := fun q => decide_eq_false (fun r => q (HIN.out k hlt r))
        generalize h1[k] = x at *
        generalize h2[k] = y at *
        clear at1 at2 e1 e2 cp1 cm1 cp2 cm2 I1 I2 hall HIN HEX
        have k2 : (k : Int) < (h2.length : Int) := by have := hl3.out; omega
        have HA4 := Blk.new wr 92 (mvC zMvH)
        have b4 : Below wr.heap.size wr (wr.alloc (.cells (mvC zMvH) 92)) := (Below.refl _ _).alloc (Nat.le_refl _) _
        go_upto_region 6 with (first
          | (refine load_cells (B := b1) (k := o1 + k * 3) 92 (mvC x) (by rfl) rfl rfl HK1 (by kernel_rfl) (by kernel_rfl) ?_)
          | (refine alloc_blk 92 (mvC zMvH) (by rfl) rfl Tryd.mhZero ?_)
          | (refine store_blk (k := 0) 92 (.agg (mvC x)) (mvC x) (by rfl) rfl rfl rfl HA4 (by kernel_rfl) (show (3 : Nat) ≤ 3 from Nat.le_refl 3) (by rfl) (st_whole _ _ rfl) ?_; intro w5 HA5 b5 g5))
        have b15 := b4.trans b5
        have HK5 : CellsAt w5 b2 (o2 + k * 3) (mvC y) := HK2.below b15 hb2
        have HA6 := Blk.new w5 92 (mvC zMvH)
        have b6 : Below w5.heap.size w5 (w5.alloc (.cells (mvC zMvH) 92)) := (Below.refl _ _).alloc (Nat.le_refl _) _
        clear HA4 b4 b5 g5 HK1 HK2
        have hsw := Bk.size
        have hs5 : w.heap.size ≤ w5.heap.size := Nat.le_trans hsw b15.size
        have HS5 := Lib.hid (fun W (hb : Below w5.heap.size w5 W) => HS.out W (b15.trans (hb.mono b15.size)))
        have B5 := Bk.trans (b15.mono hsw)
        clear HS b15 Bk
        generalize wr.heap.size = G1 at *
        go_upto_region 7 with (first
          | (refine load_cells (B := b2) (k := o2 + k * 3) 92 (mvC y) (by rfl) rfl rfl HK5 (by kernel_rfl) (by kernel_rfl) ?_)
          | (refine alloc_blk 92 (mvC zMvH) (by rfl) rfl Tryd.mhZero ?_)
          | (refine store_blk (k := 0) 92 (.agg (mvC y)) (mvC y) (by rfl) rfl rfl rfl HA6 (by kernel_rfl) (show (3 : Nat) ≤ 3 from Nat.le_refl 3) (by rfl) (st_whole _ _ rfl) ?_; intro w7 HA7 b7 g7))
        have b57 := b6.trans b7
        have HA5' := HA5.kept b57
        have B7 := B5.trans (b57.mono hs5)
        have HS7 := Lib.hid (HS5.out w7 b57)
        have hs7 : w.heap.size ≤ w7.heap.size := Nat.le_trans hs5 b57.size
        clear HS5 B5 b57 b6 b7 g7 HA6 HK5
        generalize w5.heap.size = G2 at *
        go_wp2_with (first
          | (refine load_blk (k := 0) 92 (mvC x) (by rfl) rfl rfl HA5' (by kernel_rfl) (by kernel_rfl) rfl ?_)
          | (refine load_blk (k := 0) 92 (mvC y) (by rfl) rfl rfl HA7 (by kernel_rfl) (by kernel_rfl) rfl ?_))
        refine HS7.out.mono ?_
        rintro e w8 ⟨rfl, b8⟩
        have B8 := B7.trans (b8.mono hs7)
        by_cases hxy : x.x = y.x
        · rw [decide_eq_true hxy]
          have hst := Lib.hid (hstep.out hxy)
          clear hno hxy hstep
          go_wp2
          go_roundw
          case rel => exact ⟨k + 1, by omega, by go_num, hst.out, B8⟩
          case measure => simp [intOf]; omega
        · rw [decide_eq_false hxy]
          have hnn := Lib.hid (hno.out hxy)
          clear hno hxy hstep
          go_wp2
          go_ret
          exact ⟨by rw [hnn.out]; rfl, B8⟩
      · obtain rfl : k = h1.length := by omega
        have q2 : decide ((h1.length : Int) < (h1.length : Int)) = false := decide_eq_false (by omega)
        have hyes : Hid (decide (xs h1 = xs h2) = true) := decide_eq_true (HEX.out (fun j hj => hall j hj hj))
        clear hall HIN HEX
        go_wp2
        go_ret
        exact ⟨by rw [hyes.out]; rfl, Bk⟩
  · have d : ((h1.length : Int) != (h2.length : Int)) = true := by
      rw [bne_iff_ne]
      omega
    rw [decide_eq_false (fun q : xs h1 = xs h2 => hl (by rw [← xs_len h1, ← xs_len h2, q]))]
    clear hl
    go_enter Tryd.func84, Tryd.ntmps84
    go_wp2
    go_ret
    exact ⟨rfl, Below.refl _ _⟩

theorem sameK_any (a1 a2 : Option Addr) (c1 c2 : Nat) (h1 h2 : List MvH) (w : World) (H1 : MvsIn w a1 h1) (H2 : MvsIn w a2 h2) (m1 : h1.length ≤ maxLen) (m2 : h2.length ≤ maxLen) :
    Calls Tryd.prog 65 #[.slice a1 h1.length c1, .slice a2 h2.length c2] w fun e w' => e = .returned (.bool (decide (xs h1 = xs h2))) ∧ Below w.heap.size w w' := by
  have HX := Lib.hid (sameK_many a1 a2 c1 c2 h1 h2 w H1 H2 m1 m2)
  go_enter Tryd.func65, Tryd.ntmps65
  go_wp2_with fail
  refine HX.out.mono ?_
  rintro e w2 ⟨rfl, b2⟩
  go_wp2
  go_ret
  exact ⟨rfl, b2⟩

end Go.Proofs.YtdjljnpbnhampaaDoor

namespace Go.Proofs.YtdjljnpbnhampaaDoor
open Go.RowKit
attribute [local go_sem ↓] Go.wp_at_zero Go.wp_at_succ
set_option linter.unusedSimpArgs false
set_option linter.unusedVariables false
set_option maxRecDepth 100000


set_option maxHeartbeats 1600000 in
theorem sameR_one (x y : MvH) (w : World) (hx : IvIn w x.a x.x.ev) (hy : IvIn w y.a y.x.ev) (mx : x.x.ev.length ≤ maxLen) (my : y.x.ev.length ≤ maxLen) :
    Calls Tryd.prog 85 #[.agg (mvC x), .agg (mvC y)] w fun e w' => e = .returned (.bool (decide (x.x = y.x))) ∧ Below w.heap.size w w' := by
  obtain ⟨⟨a1, f1, e1⟩, p1, c1⟩ := x
  obtain ⟨⟨a2, f2, e2⟩, p2, c2⟩ := y
  simp only at *
  unfold mvC
  simp only
  have hb0 : Below w.heap.size w ((w.alloc (.cells #[.bool a1, .int .i64 f1, .slice p1 e1.length c1] 92)).alloc (.cells #[.bool a2, .int .i64 f2, .slice p2 e2.length c2] 92)) := ((Below.refl _ _).alloc (Nat.le_refl _) _).alloc (by simp) _
  have HE := Lib.hid (intEq_any p1 p2 c1 c2 e1 e2 _ (hx.below hb0) (hy.below hb0) mx my)
  have he : decide ((⟨a1, f1, e1⟩ : Mv) = ⟨a2, f2, e2⟩) = ((a1 == a2) && ((f1 == f2) && decide (e1 = e2))) := by
    by_cases q1 : a1 = a2
    · by_cases q2 : f1 = f2
      · subst q1 q2
        simp
      · rw [decide_eq_false (fun q => q2 (congrArg Mv.first q)), (beq_eq_false_iff_ne.2 q2)]
        simp
    · rw [decide_eq_false (fun q => q1 (congrArg Mv.all q)), (beq_eq_false_iff_ne.2 q1)]
      simp
  rw [he]
  clear he hx hy
  cases hq1 : (a1 == a2) with
  | false =>
    clear HE
    go_enter Tryd.func85, Tryd.ntmps85
    go_wp2
    go_ret
    exact ⟨by simp, hb0⟩
  | true =>
    cases hq2 : (f1 == f2) with
    | false =>
      clear HE
      go_enter Tryd.func85, Tryd.ntmps85
      go_wp2
      go_ret
      exact ⟨by simp, hb0⟩
    | true =>
      have hsz : ((w.alloc (.cells #[.bool a1, .int .i64 f1, .slice p1 e1.length c1] 92)).alloc (.cells #[.bool a2, .int .i64 f2, .slice p2 e2.length c2] 92)).heap.size = w.heap.size + 1 + 1 := by simp
      go_enter Tryd.func85, Tryd.ntmps85
      go_wp2_with fail
      refine HE.out.mono ?_
      rintro e w2 ⟨rfl, b2⟩
      have B2 := hb0.trans (b2.mono hb0.size)
      go_wp2
      go_ret
      exact ⟨by simp, B2⟩

set_option maxHeartbeats 3200000 in
theorem sameR_many (a1 a2 : Option Addr) (c1 c2 : Nat) (h1 h2 : List MvH) (w : World) (H1 : MvsIn w a1 h1) (H2 : MvsIn w a2 h2) (m1 : h1.length ≤ maxLen) (m2 : h2.length ≤ maxLen) :
    Calls Tryd.prog 84 #[.slice a1 h1.length c1, .slice a2 h2.length c2, .func (.func 85) #[] #[]] w fun e w' => e = .returned (.bool (decide (xs h1 = xs h2))) ∧ Below w.heap.size w w' := by
  have k1 : h1.length ≤ 9223372036854775807 := m1
  have k2 : h2.length ≤ 9223372036854775807 := m2
  clear m1 m2
  by_cases hl : h1.length = h2.length
  · have hl3 := Lib.hid hl.symm
    have HIN : Hid (∀ (k : Nat) (hk : k < h1.length), xs h1 = xs h2 → h1[k].x = (h2[k]'(by rw [hl3.out]; exact hk)).x) := fun k hk q => by
      have e1 := xs_get h1 k hk
      have e2 := xs_get h2 k (by rw [hl3.out]; exact hk)
      rw [← e1, ← e2]
      congr 1
    have HEX : Hid ((∀ (k : Nat) (hk : k < h1.length), h1[k].x = (h2[k]'(by rw [hl3.out]; exact hk)).x) → xs h1 = xs h2) := fun q => by
      apply List.ext_getElem
      · rw [xs_len, xs_len, hl]
      · intro k q1 q2
        rw [xs_len] at q1 q2
        rw [xs_get h1 k q1, xs_get h2 k q2]
        exact q k q1
    rw [← hl]
    clear hl k2
    go_enter Tryd.func84, Tryd.ntmps84
    go_wp2_with fail
    go_loopw [17] (fun i wr => ∃ k : Nat, k ≤ h1.length ∧ i = .int .i64 k ∧ (∀ (j : Nat) (hj : j < h1.length), j < k → h1[j].x = (h2[j]'(by rw [hl3.out]; exact hj)).x) ∧ Below w.heap.size w wr) (fun i _ => h1.length - (intOf i).toNat)
    case atStart => exact ⟨0, by omega, rfl, fun j hj q => by omega, Below.refl _ _⟩
    case round =>
      obtain ⟨k, hk, rfl, hall, Bk⟩ := hrel
      by_cases hlt : k < h1.length
      · have I1 := H1.below Bk
        have I2 := H2.below Bk
        have hlt2 : k < h2.length := by rw [hl3.out]; exact hlt
        obtain ⟨b1, o1, rfl, hb1, at1⟩ := I1.row.at hlt
        obtain ⟨b2, o2, rfl, hb2, at2⟩ := I2.row.at hlt2
        have q1 : (k : Int) < (h1.length : Int) := by omega
        have q2 : decide ((k : Int) < (h1.length : Int)) = true := decide_eq_true q1
        have q3 : (0 : Int) ≤ (k : Int) := by omega
        have q4 : IntKind.i64.wrap ((k : Int) + 1) = (k : Int) + 1 := by rw [IntKind.wrap_i64] <;> omega
        have HK1 := at1 k hlt
        have HK2 := at2 k hlt2
        obtain ⟨e1, cp1, cm1⟩ := I1.ev h1[k] (List.getElem_mem hlt)
        obtain ⟨e2, cp2, cm2⟩ := I2.ev h2[k] (List.getElem_mem hlt2)
        have HS : Hid (∀ W, Below wr.heap.size wr W → Calls Tryd.prog 85 #[.agg (mvC h1[k]), .agg (mvC h2[k])] W fun e w' => e = .returned (.bool (decide (h1[k].x = h2[k].x))) ∧ Below W.heap.size W w') := fun W hb => sameR_one h1[k] h2[k] W (e1.below hb) (e2.below hb) (Nat.le_trans cp1 cm1) (Nat.le_trans cp2 cm2)
        have hstep : Hid (h1[k].x = h2[k].x → ∀ (j : Nat) (hj : j < h1.length), j < k + 1 → h1[j].x = (h2[j]'(by rw [hl3.out]; exact hj)).x) := fun q j hj hj2 => by
          by_cases hjk : j = k
          · subst hjk; exact q
          · exact hall j hj (by omega)
        have hno : Hid (¬ h1[k].x = h2[k].x → decide (xs h1 = xs h2) = false) := fun q => decide_eq_false (fun r => q (HIN.out k hlt r))
        generalize h1[k] = x at *
        generalize h2[k] = y at *
        clear at1 at2 e1 e2 cp1 cm1 cp2 cm2 I1 I2 hall HIN HEX
        have k2 : (k : Int) < (h2.length : Int) := by have := hl3.out; omega
        have HA4 := Blk.new wr 92 (mvC zMvH)
        have b4 : Below wr.heap.size wr (wr.alloc (.cells (mvC zMvH) 92)) := (Below.refl _ _).alloc (Nat.le_refl _) _
        go_upto_region 6 with (first
          | (refine load_cells (B := b1) (k := o1 + k * 3) 92 (mvC x) (by rfl) rfl rfl HK1 (by kernel_rfl) (by kernel_rfl) ?_)
          | (refine alloc_blk 92 (mvC zMvH) (by rfl) rfl Tryd.mhZero ?_)
          | (refine store_blk (k := 0) 92 (.agg (mvC x)) (mvC x) (by rfl) rfl rfl rfl HA4 (by kernel_rfl) (show (3 : Nat) ≤ 3 from Nat.le_refl 3) (by rfl) (st_whole _ _ rfl) ?_; intro w5 HA5 b5 g5))
        have b15 := b4.trans b5
        have HK5 : CellsAt w5 b2 (o2 + k * 3) (mvC y) := HK2.below b15 hb2
        have HA6 := Blk.new w5 92 (mvC zMvH)
        have b6 : Below w5.heap.size w5 (w5.alloc (.cells (mvC zMvH) 92)) := (Below.refl _ _).alloc (Nat.le_refl _) _
        clear HA4 b4 b5 g5 HK1 HK2
        have hsw := Bk.size
        have hs5 : w.heap.size ≤ w5.heap.size := Nat.le_trans hsw b15.size
        have HS5 := Lib.hid (fun W (hb : Below w5.heap.size w5 W) => HS.out W (b15.trans (hb.mono b15.size)))
        have B5 := Bk.trans (b15.mono hsw)
        clear HS b15 Bk
        generalize wr.heap.size = G1 at *
        go_upto_region 7 with (first
          | (refine load_cells (B := b2) (k := o2 + k * 3) 92 (mvC y) (by rfl) rfl rfl HK5 (by kernel_rfl) (by kernel_rfl) ?_)
          | (refine alloc_blk 92 (mvC zMvH) (by rfl) rfl Tryd.mhZero ?_)
          | (refine store_blk (k := 0) 92 (.agg (mvC y)) (mvC y) (by rfl) rfl rfl rfl HA6 (by kernel_rfl) (show (3 : Nat) ≤ 3 from Nat.le_refl 3) (by rfl) (st_whole _ _ rfl) ?_; intro w7 HA7 b7 g7))
        have b57 := b6.trans b7
        have HA5' := HA5.kept b57
        have B7 := B5.trans (b57.mono hs5)
        have HS7 := Lib.hid (HS5.out w7 b57)
        have hs7 : w.heap.size ≤ w7.heap.size := Nat.le_trans hs5 b57.size
        clear HS5 B5 b57 b6 b7 g7 HA6 HK5
        generalize w5.heap.size = G2 at *
        go_wp2_with (first
          | (refine load_blk (k := 0) 92 (mvC x) (by rfl) rfl rfl HA5' (by kernel_rfl) (by kernel_rfl) rfl ?_)
          | (refine load_blk (k := 0) 92 (mvC y) (by rfl) rfl rfl HA7 (by kernel_rfl) (by kernel_rfl) rfl ?_))
        refine HS7.out.mono ?_
        rintro e w8 ⟨rfl, b8⟩
        have B8 := B7.trans (b8.mono hs7)
        by_cases hxy : x.x = y.x
        · rw [decide_eq_true hxy]
          have hst := Lib.hid (hstep.out hxy)
          clear hno hxy hstep
          go_wp2
          go_roundw
          case rel => exact ⟨k + 1, by omega, by go_num, hst.out, B8⟩
          case measure => simp [intOf]; omega
        · rw [decide_eq_false hxy]
          have hnn := Lib.hid (hno.out hxy)
          clear hno hxy hstep
          go_wp2
          go_ret
          exact ⟨by rw [hnn.out]; rfl, B8⟩
      · obtain rfl : k = h1.length := by omega
        have q2 : decide ((h1.length : Int) < (h1.length : Int)) = false := decide_eq_false (by omega)
        have hyes : Hid (decide (xs h1 = xs h2) = true) := decide_eq_true (HEX.out (fun j hj => hall j hj hj))
        clear hall HIN HEX
        go_wp2
        go_ret
        exact ⟨by rw [hyes.out]; rfl, Bk⟩
  · have d : ((h1.length : Int) != (h2.length : Int)) = true := by
      rw [bne_iff_ne]
      omega
    rw [decide_eq_false (fun q : xs h1 = xs h2 => hl (by rw [← xs_len h1, ← xs_len h2, q]))]
    clear hl
    go_enter Tryd.func84, Tryd.ntmps84
    go_wp2
    go_ret
    exact ⟨rfl, Below.refl _ _⟩

theorem sameR_any (a1 a2 : Option Addr) (c1 c2 : Nat) (h1 h2 : List MvH) (w : World) (H1 : MvsIn w a1 h1) (H2 : MvsIn w a2 h2) (m1 : h1.length ≤ maxLen) (m2 : h2.length ≤ maxLen) :
    Calls Tryd.prog 55 #[.slice a1 h1.length c1, .slice a2 h2.length c2] w fun e w' => e = .returned (.bool (decide (xs h1 = xs h2))) ∧ Below w.heap.size w w' := by
  have HX := Lib.hid (sameR_many a1 a2 c1 c2 h1 h2 w H1 H2 m1 m2)
  go_enter Tryd.func55, Tryd.ntmps55
  go_wp2_with fail
  refine HX.out.mono ?_
  rintro e w2 ⟨rfl, b2⟩
  go_wp2
  go_ret
  exact ⟨rfl, b2⟩

end Go.Proofs.YtdjljnpbnhampaaDoor

