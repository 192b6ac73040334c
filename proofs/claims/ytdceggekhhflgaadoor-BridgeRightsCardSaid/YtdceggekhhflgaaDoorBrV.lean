/- package bridge: has, firstTag, Vid. -/
import Derived.Test.YtdceggekhhflgaaDoorBrg
import Derived.Test.YtdceggekhhflgaaDoorFrRight
import Derived.Test.YtdceggekhhflgaaDoorCells
import Derived.Test.YtdceggekhhflgaaDoorStOp
namespace Go.Proofs.YtdceggekhhflgaaDoor
open Go.RowKit
attribute [local go_sem ↓] Go.wp_at_zero Go.wp_at_succ
set_option linter.unusedSimpArgs false
set_option linter.unusedVariables false
set_option maxRecDepth 100000



def tgC (t : Tg) : Array Value := #[.bool t.s, .int .i64 t.p, .bool t.d, .int .i64 t.v]



theorem TagsIn.cells {w : World} {a : Option Addr} {l : List Tg} (h : TagsIn w a l) {k : Nat} (hk : k < l.length) : ∃ b lo, a = some ⟨b, lo, none⟩ ∧ b < w.heap.size ∧ CellsAt w b (lo + k * 4) (tgC l[k]) := by
  rcases h with rfl | ⟨b, lo, ha, hlt, hat⟩
  · simp at hk
  · obtain ⟨h0, h1, h2, h3⟩ := hat k hk
    refine ⟨b, lo, ha, hlt, fun j v hv => ?_⟩
    have hj : j < 4 := (Array.getElem?_eq_some_iff.1 hv).1
    have : j = 0 ∨ j = 1 ∨ j = 2 ∨ j = 3 := by omega
    rcases this with rfl | rfl | rfl | rfl
    · cases hv; exact h0
    · cases hv; exact h1
    · cases hv; exact h2
    · cases hv; exact h3

/-- A parameter is laid into a block of its own. -/
theorem box_blk {P : Program} {ops : Array Oper} {rest : List Oper} {o : Oper} {a : Act} {w : World} {Q : Exit → Act → World → Prop} {x : Operand} (t : TypeId) (X : Array Value) (hw : Region.wanted o (yielded ops a.tmps) = true) (ho : o.op = .box t x) (hx : a.eval x = .agg X)
    (h : wpList P ops Q rest (a.put o.dst (.pointer (some ⟨w.heap.size, 0, none⟩))) (w.alloc (.cells X t))) : wpList P ops Q (o :: rest) a w :=
  wpList_step fun K hK => by
    have h1 : (Instr.box t (.agg X)).run P w = .ok (.pointer (some ⟨w.heap.size, 0, none⟩)) (w.alloc (.cells X t)) := by
      simp [Instr.box, newVar, newRow, newObj, Value.cells]
      rfl
    rw [if_pos hw]
    unfold Oper.wp execOp
    simp only [ho, hx, Sem.run_bind, Sem.run_pure, Result.andThen_ok, h1]
    exact hK _ _ h

theorem tgC_size (t : Tg) : (tgC t).size = 4 := by rfl



theorem hasB_of {n : Nat} {port : Int} (h : hasB n port = true) : ∃ k : Nat, port = (k : Int) ∧ k < n := by
  unfold hasB at h
  simp only [Bool.and_eq_true, decide_eq_true_eq] at h
  exact ⟨port.toNat, by omega, by omega⟩

theorem hasB_no {n : Nat} {port : Int} (h : hasB n port = false) {ps : List Ps} (hn : ps.length = n) (tl : List Tg) : vidM ps port tl = 0 := by
  unfold vidM
  rw [hn, h]
  rfl

theorem hasB_yes {hs : List PsH} {k : Nat} (h : k < hs.length) (tl : List Tg) : vidM (hs.map PsH.x) (k : Int) tl = vidP hs[k].x (firstT tl) := by
  unfold vidM hasB
  rw [decide_eq_true (by omega), List.length_map, decide_eq_true (by omega)]
  simp [h]



end Go.Proofs.YtdceggekhhflgaaDoor
