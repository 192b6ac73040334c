/- The reference's TlvRead: its door. -/
import Derived.Test.YticjmjoiggnblaaDoorTlS
import Derived.Test.YticjmjoiggnblaaDoorNiS
import Derived.Test.YticjmjoiggnblaaDoorCaught
import Derived.Test.YticjmjoiggnblaaDoorStOp
namespace Go.Proofs.YticjmjoiggnblaaDoor
open Go.RowKit
attribute [local go_sem ↓] Go.wp_at_zero Go.wp_at_succ
set_option linter.unusedSimpArgs false
set_option linter.unusedVariables false
set_option maxRecDepth 100000

theorem exec_build_blkT {P : Program} {a : Act} {o : Oper} {w : World} {t : TypeId} {parts : Array (Nat × Operand)} (X : Array Value) (ho : o.op = .build t parts)
    (hf : P.built t (parts.map fun (i, x) => (i, a.eval x)).toList = some X) : (execOp a.eval o).run P w = .ok (.value (.agg X)) w := by
  have h1 := run_build (P := P) w t (parts.map fun (i, x) => (i, a.eval x)) X hf
  unfold execOp
  simp only [ho, Sem.run_bind, Result.andThen_ok, h1, Sem.run_pure]
/-- One cell, loaded by its type. -/
theorem run_load_one {P : Program} {w : World} {B : Nat} {T t : TypeId} {v : Value} (hB : Blk w B T #[v]) (hu : (match P.underlying t with | some (.struct _) | some (.array _ _) => true | some _ => false | none => true) = false) : (loadVar t ⟨B, 0, none⟩).run P w = .ok v w := by
  have hc := hB.cv 0 v rfl
  cases hd : P.underlying t with
  | none => simp [hd] at hu
  | some d => cases d <;> simp [hd] at hu <;> simp [loadVar, isAgg, run_underlying hd, hc]
theorem results_cells4 {P : Program} {fn : Func} {tmps : Array Value} {w : World} {a t b u c x d y A B C D : Nat} {T U V : TypeId} {X : TypeId} {v1 v2 v3 : Value} {Y : Array Value} (h : fn.results = #[.cell a t, .cell b u, .cell c x, .cell d y])
    (ha : tmps.getD a undef = .pointer (some ⟨A, 0, none⟩)) (hb : tmps.getD b undef = .pointer (some ⟨B, 0, none⟩)) (hc : tmps.getD c undef = .pointer (some ⟨C, 0, none⟩)) (hd : tmps.getD d undef = .pointer (some ⟨D, 0, none⟩))
    (hA : Blk w A T #[v1]) (hB : Blk w B U #[v2]) (hC : Blk w C V #[v3]) (hD : Blk w D X Y)
    (h1 : (match P.underlying t with | some (.struct _) | some (.array _ _) => true | some _ => false | none => true) = false) (h2 : (match P.underlying u with | some (.struct _) | some (.array _ _) => true | some _ => false | none => true) = false) (h3 : (match P.underlying x with | some (.struct _) | some (.array _ _) => true | some _ => false | none => true) = false)
    (hu : (match P.underlying y with | some (.struct _) | some (.array _ _) => true | _ => false) = true) (hn : (P.info? y).map (·.size) = some Y.size) :
    (results fn tmps).run P w = .ok (.tuple #[v1, v2, v3, .agg Y]) w := by
  have e1 := run_load_one (P := P) hA h1
  have e2 := run_load_one (P := P) hB h2
  have e3 := run_load_one (P := P) hC h3
  have e4 := run_load_blk (P := P) w D 0 X y Y Y hD hu hn (by rw [List.drop_zero]; exact List.take_of_length_le (by simp))
  rw [Array.getD_eq_getD_getElem?] at ha hb hc hd
  simp only [results, h]
  simp [ha, hb, hc, hd, asAddr, e1, e2, e3, e4]

theorem tl_clo_ok (E A B C : Nat) (pl : Int) (w : World) (HE : Blk w E 27 (ftC 0 pl)) :
    CallsD Tryd.prog 43 #[.pointer (some ⟨E, 0, none⟩), .pointer (some ⟨A, 0, none⟩), .pointer (some ⟨B, 0, none⟩), .pointer (some ⟨C, 0, none⟩)] .returning w fun r u' w' => u' = .returning ∧ (r = .returned (.tuple #[]) ∧ Below w.heap.size w w') := by
  go_enter_d Tryd.func43, Tryd.ntmps43
  go_wp2_with (refine load_blk (k := 0) 27 (ftC 0 pl) (by rfl) rfl rfl HE (by kernel_rfl) (by kernel_rfl) rfl ?_)
  refine (is_any 0 pl _).mono ?_
  rintro e w2 ⟨rfl, b2⟩
  go_wp2
  go_end0
  exact ⟨rfl, b2⟩

theorem tl_clo_bad (E A B C : Nat) (e pl : Int) (v1 v2 v3 : Value) (w : World) (he : e ≠ 0) (HE : Blk w E 27 (ftC e pl)) (HA : Blk w A 22 #[v1]) (HB : Blk w B 36 #[v2]) (HC : Blk w C 3 #[v3]) (hn : A ≠ B ∧ A ≠ C ∧ A ≠ E ∧ B ≠ C ∧ B ≠ E ∧ C ≠ E) (D : Nat) (hD : D ≤ A ∧ D ≤ B ∧ D ≤ C ∧ D ≤ w.heap.size) :
    CallsD Tryd.prog 43 #[.pointer (some ⟨E, 0, none⟩), .pointer (some ⟨A, 0, none⟩), .pointer (some ⟨B, 0, none⟩), .pointer (some ⟨C, 0, none⟩)] .returning w fun r u' w' => u' = .returning ∧ (r = .returned (.tuple #[]) ∧ Blk w' A 22 #[.slice none 0 0] ∧ Blk w' B 36 #[.slice none 0 0] ∧ Blk w' C 3 #[.int .i64 0] ∧ Blk w' E 27 (ftC e pl) ∧ Below D w w') := by
  have h1 : (e == 0) = false := by simp [he]
  obtain ⟨n1, n2, n3, n4, n5, n6⟩ := hn
  obtain ⟨d1, d2, d3, d4⟩ := hD
  clear he
  go_enter_d Tryd.func43, Tryd.ntmps43
  go_wp2_with (refine load_blk (k := 0) 27 (ftC e pl) (by rfl) rfl rfl HE (by kernel_rfl) (by kernel_rfl) rfl ?_)
  refine (is_any e pl _).mono ?_
  rintro r w2 ⟨rfl, b2⟩
  have HA2 := HA.kept b2
  have HB2 := HB.kept b2
  have HC2 := HC.kept b2
  have HE2 := HE.kept b2
  have hs2 := b2.size
  have D2 : Below D w w2 := b2.mono d4
  go_wp2_with (first
    | (refine store_blk (k := 0) 22 (.slice none 0 0) #[.slice none 0 0] (by rfl) rfl rfl rfl HA2 (by kernel_rfl) (by exact Nat.le_refl 1) (by rfl) rfl ?_; intro w3 HA3 b3 g3; have HB3 := HB2.grown g3 (by simp; omega); have HC3 := HC2.grown g3 (by simp; omega); have HE3 := HE2.grown g3 (by simp; omega); have D3 := D2.trans (b3.mono d1))
    | (refine store_blk (k := 0) 36 (.slice none 0 0) #[.slice none 0 0] (by rfl) rfl rfl rfl HB3 (by kernel_rfl) (by exact Nat.le_refl 1) (by rfl) rfl ?_; intro w4 HB4 b4 g4; have HA4 := HA3.grown g4 (by simp; omega); have HC4 := HC3.grown g4 (by simp; omega); have HE4 := HE3.grown g4 (by simp; omega); have D4 := D3.trans (b4.mono d2))
    | (refine store_blk (k := 0) 3 (.int .i64 0) #[.int .i64 0] (by rfl) rfl rfl rfl HC4 (by kernel_rfl) (by exact Nat.le_refl 1) (by rfl) rfl ?_; intro w5 HC5 b5 g5; have HA5 := HA4.grown g5 (by simp; omega); have HB5 := HB4.grown g5 (by simp; omega); have HE5 := HE4.grown g5 (by simp; omega); have D5 := D4.trans (b5.mono d3)))
  go_end0
  exact ⟨rfl, HA5, HB5, HC5, HE5, D5⟩

/-- Behind what was thrown. -/
theorem tl_door_bad {Q : Ending → World → Prop} {w0 w : World} {tmps : Array Value} {A B C E : Nat} {v1 v2 v3 : Value} {e0 pl0 e pl : Int} (hQ : ∀ w', Below w0.heap.size w0 w' → Q (.returned (.tuple #[.slice none 0 0, .slice none 0 0, .int .i64 0, .agg (ftC e pl)])) w')
    (ht2 : tmps.getD 2 undef = .pointer (some ⟨A, 0, none⟩)) (ht3 : tmps.getD 3 undef = .pointer (some ⟨B, 0, none⟩)) (ht4 : tmps.getD 4 undef = .pointer (some ⟨C, 0, none⟩)) (ht5 : tmps.getD 5 undef = .pointer (some ⟨E, 0, none⟩)) (he : e ≠ 0)
    (HA : Blk w A 22 #[v1]) (HB : Blk w B 36 #[v2]) (HC : Blk w C 3 #[v3]) (HE : Blk w E 27 (ftC e0 pl0)) (hn : A ≠ B ∧ A ≠ C ∧ A ≠ E ∧ B ≠ C ∧ B ≠ E ∧ C ≠ E) (hA : w0.heap.size ≤ A ∧ w0.heap.size ≤ B ∧ w0.heap.size ≤ C ∧ w0.heap.size ≤ E) (hb : Below w0.heap.size w0 w) :
    Leaves Tryd.prog Tryd.f14 tmps Q
      [{ target := .fn (.func 45) #[], args := #[.pointer (some ⟨E, 0, none⟩)] }, { target := .fn (.func 43) #[.pointer (some ⟨E, 0, none⟩), .pointer (some ⟨A, 0, none⟩), .pointer (some ⟨B, 0, none⟩), .pointer (some ⟨C, 0, none⟩)], args := #[] }] (.panicking (Thrown e pl)) w := by
  obtain ⟨n1, n2, n3, n4, n5, n6⟩ := hn
  obtain ⟨d1, d2, d3, d4⟩ := hA
  refine leaves_cons (f := 45) (args := #[.pointer (some ⟨E, 0, none⟩)]) (by simp [Thrown]) (by simp [go_sem]) ?_
  refine (caught_thrown E e0 pl0 e pl [] w HE).mono ?_
  rintro r u' w2 ⟨rfl, rfl, HE2, g2⟩
  have HA2 := HA.grown g2 (by simp; omega)
  have HB2 := HB.grown g2 (by simp; omega)
  have HC2 := HC.grown g2 (by simp; omega)
  have b2 : Below w0.heap.size w0 w2 := hb.grown g2 hb.size (fun k e => by cases e; exact d4)
  refine leaves_cons (f := 43) (args := #[.pointer (some ⟨E, 0, none⟩), .pointer (some ⟨A, 0, none⟩), .pointer (some ⟨B, 0, none⟩), .pointer (some ⟨C, 0, none⟩)]) (by simp [settle]) (by simp [go_sem]) ?_
  refine (tl_clo_bad E A B C e pl v1 v2 v3 w2 he HE2 HA2 HB2 HC2 ⟨n1, n2, n3, n4, n5, n6⟩ w0.heap.size ⟨d1, d2, d3, b2.size⟩).mono ?_
  rintro r u' w3 ⟨rfl, rfl, HA3, HB3, HC3, HE3, b3⟩
  exact ⟨_, results_cells4 rfl ht2 ht3 ht4 ht5 HA3 HB3 HC3 HE3 (by kernel_rfl) (by kernel_rfl) (by kernel_rfl) (by kernel_rfl) (by kernel_rfl), hQ _ (b2.trans b3)⟩

/-- Where nothing was thrown. -/
theorem tl_door_ok {Q : Ending → World → Prop} {w0 w : World} {tmps : Array Value} {A B C E : Nat} {v1 v2 v3 : Value} {pl : Int} (hQ : ∀ w', Below w.heap.size w w' → Below w0.heap.size w0 w' → Q (.returned (.tuple #[v1, v2, v3, .agg (ftC 0 pl)])) w')
    (ht2 : tmps.getD 2 undef = .pointer (some ⟨A, 0, none⟩)) (ht3 : tmps.getD 3 undef = .pointer (some ⟨B, 0, none⟩)) (ht4 : tmps.getD 4 undef = .pointer (some ⟨C, 0, none⟩)) (ht5 : tmps.getD 5 undef = .pointer (some ⟨E, 0, none⟩))
    (HA : Blk w A 22 #[v1]) (HB : Blk w B 36 #[v2]) (HC : Blk w C 3 #[v3]) (HE : Blk w E 27 (ftC 0 pl)) (hb : Below w0.heap.size w0 w) :
    Leaves Tryd.prog Tryd.f14 tmps Q
      [{ target := .fn (.func 45) #[], args := #[.pointer (some ⟨E, 0, none⟩)] }, { target := .fn (.func 43) #[.pointer (some ⟨E, 0, none⟩), .pointer (some ⟨A, 0, none⟩), .pointer (some ⟨B, 0, none⟩), .pointer (some ⟨C, 0, none⟩)], args := #[] }] .returning w := by
  refine leaves_cons (f := 45) (args := #[.pointer (some ⟨E, 0, none⟩)]) (by simp) (by simp [go_sem]) ?_
  refine (caught_idle ⟨E, 0, none⟩ w).mono ?_
  rintro r u' w2 ⟨rfl, rfl, rfl⟩
  refine leaves_cons (f := 43) (args := #[.pointer (some ⟨E, 0, none⟩), .pointer (some ⟨A, 0, none⟩), .pointer (some ⟨B, 0, none⟩), .pointer (some ⟨C, 0, none⟩)]) (by simp [settle]) (by simp [go_sem]) ?_
  refine (tl_clo_ok E A B C pl w2 HE).mono ?_
  rintro r u' w3 ⟨rfl, rfl, b3⟩
  exact ⟨_, results_cells4 rfl ht2 ht3 ht4 ht5 (HA.kept b3) (HB.kept b3) (HC.kept b3) (HE.kept b3) (by kernel_rfl) (by kernel_rfl) (by kernel_rfl) (by kernel_rfl) (by kernel_rfl), hQ _ b3 (hb.trans (b3.mono hb.size))⟩
theorem leaves_congrT {P : Program} {fn : Func} {tmps tmps' : Array Value} {R : Ending → World → Prop} (h : results fn tmps = results fn tmps') : ∀ (ds : List Deferred) (u : FrameMode) (w : World), Leaves P fn tmps R ds u w → Leaves P fn tmps' R ds u w := by
  intro ds
  induction ds with
  | nil =>
    intro u w hl
    cases u with
    | run => exact hl
    | returning =>
      obtain ⟨v, hr, hR⟩ := hl
      exact ⟨v, h ▸ hr, hR⟩
    | panicking c => exact hl
  | cons d ds ih =>
    intro u w hl
    obtain ⟨h1, fv, cap, f, args, h2, h3, h4⟩ := hl
    refine ⟨h1, fv, cap, f, args, h2, h3, h4.mono ?_⟩
    intro e u' w' hh
    cases e with
    | returned v => exact ih _ _ hh
    | panicked c => exact ih _ _ hh
    | outgrown => exact hh
theorem leaves_put4 {P : Program} {fn : Func} {R : Ending → World → Prop} {a b x y : Nat} {t u p q : TypeId} (h : fn.results = #[.cell a t, .cell b u, .cell x p, .cell y q]) {A : Act} {d : Option Nat} {v : Value} {c : List PanicEntry} {w : World} (h1 : d ≠ some a ∧ d ≠ some b ∧ d ≠ some x ∧ d ≠ some y)
    (hl : Leaves P fn (A.put d v).tmps R (A.put d v).defers (.panicking c) w) : Leaves P fn A.tmps R A.defers (.panicking c) w := by
  obtain ⟨g1, g2, g3, g4⟩ := h1
  cases d with
  | none => exact hl
  | some d =>
    have n1 : d ≠ a := fun q => g1 (by rw [q])
    have n2 : d ≠ b := fun q => g2 (by rw [q])
    have n3 : d ≠ x := fun q => g3 (by rw [q])
    have n4 : d ≠ y := fun q => g4 (by rw [q])
    refine leaves_congrT ?_ _ _ _ hl
    show results fn (A.tmps.setIfInBounds d v) = _
    simp only [results, h]
    simp [Array.getElem?_setIfInBounds, n1, n2, n3, n4]

end Go.Proofs.YticjmjoiggnblaaDoor
