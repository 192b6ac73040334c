/- The reference's PauseRead: its door. -/
import Derived.Test.YtnldggbhhbndfaaDoorBlk
import Derived.Test.YtnldggbhhbndfaaDoorPaSpec
namespace Go.Proofs.YtnldggbhhbndfaaDoor
open Go.RowKit
attribute [local go_sem ↓] Go.wp_at_zero Go.wp_at_succ
set_option linter.unusedSimpArgs false
set_option linter.unusedVariables false
set_option maxRecDepth 100000

theorem pa_clo_ok (E A : Nat) (pl : Int) (w : World) (HE : Blk w E 40 (ftC 0 pl)) :
    CallsD Tryd.prog 64 #[.pointer (some ⟨E, 0, none⟩), .pointer (some ⟨A, 0, none⟩)] .returning w fun r u' w' => u' = .returning ∧ (r = .returned (.tuple #[]) ∧ Below w.heap.size w w') := by
  go_enter_d Tryd.func64, Tryd.ntmps64
  go_wp2_with (refine load_blk (k := 0) 40 (ftC 0 pl) (by rfl) rfl rfl HE (by kernel_rfl) (by kernel_rfl) rfl ?_)
  refine (is_any 0 pl _).mono ?_
  rintro e w2 ⟨rfl, b2⟩
  go_wp2
  go_end0
  exact ⟨rfl, b2⟩

theorem pa_clo_bad (E A : Nat) (e pl : Int) (x : Pa) (w : World) (he : e ≠ 0) (HE : Blk w E 40 (ftC e pl)) (HA : Blk w A 54 (paC x)) (hne : A ≠ E) :
    CallsD Tryd.prog 64 #[.pointer (some ⟨E, 0, none⟩), .pointer (some ⟨A, 0, none⟩)] .returning w fun r u' w' => u' = .returning ∧ (r = .returned (.tuple #[]) ∧ Blk w' A 54 (paC zPa) ∧ Blk w' E 40 (ftC e pl) ∧ w.grownBy w' (some A)) := by
  have h1 : (e == 0) = false := by simp [he]
  clear he
  go_enter_d Tryd.func64, Tryd.ntmps64
  go_wp2_with (refine load_blk (k := 0) 40 (ftC e pl) (by rfl) rfl rfl HE (by kernel_rfl) (by kernel_rfl) rfl ?_)
  refine (is_any e pl _).mono ?_
  rintro r w2 ⟨rfl, b2⟩
  have HA2 := HA.kept b2
  have HE2 := HE.kept b2
  have hg2 : w.grownBy w2 (some A) := ⟨b2.os, b2.tape, b2.output, b2.size, fun k hk _ => b2.block k hk⟩
  go_wp2_with (first | (refine build_blk (t := 54) (paC zPa) (by rfl) rfl (by kernel_rfl) ?_) | (refine store_blk (k := 0) 54 (.agg (paC zPa)) (paC zPa) (by rfl) rfl rfl rfl HA2 (by kernel_rfl) (by exact Nat.le_refl 10) rfl rfl (fun w3 HA3 b3 g3 => ?_)))
  go_end0
  exact ⟨rfl, HA3, HE2.grown g3 (by simpa using Ne.symm hne), grownBy_trans hg2 g3⟩

/-- Behind what was thrown. -/
theorem pa_door_bad {w0 w : World} {tmps : Array Value} {A E : Nat} {x : Pa} {e0 pl0 e pl : Int} (ht2 : tmps.getD 2 undef = .pointer (some ⟨A, 0, none⟩)) (ht3 : tmps.getD 3 undef = .pointer (some ⟨E, 0, none⟩)) (he : e ≠ 0)
    (HA : Blk w A 54 (paC x)) (HE : Blk w E 40 (ftC e0 pl0)) (hne : A ≠ E) (hA : w0.heap.size ≤ A) (hE : w0.heap.size ≤ E) (hb : Below w0.heap.size w0 w) :
    Leaves Tryd.prog Tryd.f28 tmps (fun r w' => r = .returned (.tuple #[.agg (paC zPa), .agg (ftC e pl)]) ∧ Below w0.heap.size w0 w')
      [{ target := .fn (.func 37) #[], args := #[.pointer (some ⟨E, 0, none⟩)] }, { target := .fn (.func 64) #[.pointer (some ⟨E, 0, none⟩), .pointer (some ⟨A, 0, none⟩)], args := #[] }] (.panicking (Thrown e pl)) w := by
  refine leaves_cons (f := 37) (args := #[.pointer (some ⟨E, 0, none⟩)]) (by simp [Thrown]) (by simp [go_sem]) ?_
  refine (caught_thrown E e0 pl0 e pl [] w HE).mono ?_
  rintro r u' w2 ⟨rfl, rfl, HE2, g2⟩
  have HA2 := HA.grown g2 (by simpa using hne)
  have b2 : Below w0.heap.size w0 w2 := grown_belowA hb g2 hb.size hE
  refine leaves_cons (f := 64) (args := #[.pointer (some ⟨E, 0, none⟩), .pointer (some ⟨A, 0, none⟩)]) (by simp [settle]) (by simp [go_sem]) ?_
  refine (pa_clo_bad E A e pl x w2 he HE2 HA2 hne).mono ?_
  rintro r u' w3 ⟨rfl, rfl, HA3, HE3, g3⟩
  exact ⟨_, results_blk2 rfl ht2 ht3 HA3 HE3 (by kernel_rfl) (by kernel_rfl) (by kernel_rfl) (by kernel_rfl), rfl, grown_belowA b2 g3 b2.size hA⟩

/-- Where nothing was thrown. -/
theorem pa_door_ok {w0 w : World} {tmps : Array Value} {A E : Nat} {x : Pa} {pl : Int} (ht2 : tmps.getD 2 undef = .pointer (some ⟨A, 0, none⟩)) (ht3 : tmps.getD 3 undef = .pointer (some ⟨E, 0, none⟩))
    (HA : Blk w A 54 (paC x)) (HE : Blk w E 40 (ftC 0 pl)) (hb : Below w0.heap.size w0 w) :
    Leaves Tryd.prog Tryd.f28 tmps (fun r w' => r = .returned (.tuple #[.agg (paC x), .agg (ftC 0 pl)]) ∧ Below w0.heap.size w0 w')
      [{ target := .fn (.func 37) #[], args := #[.pointer (some ⟨E, 0, none⟩)] }, { target := .fn (.func 64) #[.pointer (some ⟨E, 0, none⟩), .pointer (some ⟨A, 0, none⟩)], args := #[] }] .returning w := by
  refine leaves_cons (f := 37) (args := #[.pointer (some ⟨E, 0, none⟩)]) (by simp) (by simp [go_sem]) ?_
  refine (caught_idle ⟨E, 0, none⟩ w).mono ?_
  rintro r u' w2 ⟨rfl, rfl, rfl⟩
  refine leaves_cons (f := 64) (args := #[.pointer (some ⟨E, 0, none⟩), .pointer (some ⟨A, 0, none⟩)]) (by simp [settle]) (by simp [go_sem]) ?_
  refine (pa_clo_ok E A pl w2 HE).mono ?_
  rintro r u' w3 ⟨rfl, rfl, b3⟩
  exact ⟨_, results_blk2 rfl ht2 ht3 (HA.kept b3) (HE.kept b3) (by kernel_rfl) (by kernel_rfl) (by kernel_rfl) (by kernel_rfl), rfl, hb.trans (b3.mono hb.size)⟩

/-- A whole block is stored, whatever the order. -/
theorem wp_store_op {P : Program} {o : Oper} {a : Act} {w : World} {K : Act → World → Prop} {Q : Exit → Act → World → Prop} {p x : Operand} {B k : Nat} {T : TypeId} {C : Array Value} (t : TypeId) (v : Value) (C' : Array Value) (ho : o.op = .store t p x)
    (hp : a.eval p = .pointer (some ⟨B, k, none⟩)) (hx : a.eval x = v) (hB : Blk w B T C) (hn : (P.info? t).map (·.size) = some v.cells.size) (hk : k + v.cells.toList.length ≤ C.size) (h1 : v.cells.toList.all (·.oneCell') = true)
    (hC : (C.toList.take k ++ v.cells.toList ++ C.toList.drop (k + v.cells.toList.length)).toArray = C')
    (hK : ∀ w', Blk w' B T C' → Below B w w' → w.grownBy w' (some B) → K (a.put o.dst undef) w') : Oper.wp P o a w K Q := by
  have h3 := run_store_blk (P := P) w B k T t C C' v hB hn hk h1 hC
  have hFr := hB.setRow C'
  have hbl : Below B w (w.setRow B C') := below_setRow (Below.refl _ _) (Nat.le_refl _) _
  have hg : w.grownBy (w.setRow B C') (some B) := ⟨rfl, rfl, rfl, by simp, fun j _ hj => setRow_other w B j C' (by intro e; subst e; exact hj rfl)⟩
  unfold Oper.wp execOp
  simp only [ho, hp, hx, Instr.storeAt, Instr.sureAddr, Sem.run_bind, Sem.run_pure, Result.andThen_ok, h3]
  exact hK _ hFr hbl hg

end Go.Proofs.YtnldggbhhbndfaaDoor
