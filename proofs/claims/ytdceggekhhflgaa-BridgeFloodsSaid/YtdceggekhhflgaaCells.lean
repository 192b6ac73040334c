/- Cells that lie one behind the other in a row: loaded whole. -/
import Derived.Test.YtdceggekhhflgaaBlk
import Derived.Test.YtdceggekhhflgaaBy
namespace Go.Proofs.Ytdceggekhhflgaa
open Go.RowKit
attribute [local go_sem ↓] Go.wp_at_zero Go.wp_at_succ
set_option linter.unusedSimpArgs false
set_option linter.unusedVariables false
set_option maxRecDepth 100000

/-- These cells lie one behind the other. -/
def CellsAt (w : World) (B o : Nat) (X : Array Value) : Prop := ∀ (k : Nat) (c : Value), X[k]? = some c → w.cell? ⟨B, o + k, none⟩ = some c

theorem CellsAt.below {w w' : World} {B o D : Nat} {X : Array Value} (h : CellsAt w B o X) (hb : Below D w w') (hB : B < D) : CellsAt w' B o X := by
  intro k c hc
  have h1 := h k c hc
  have hk : w'.heap[B]? = w.heap[B]? := hb.block B hB
  unfold World.cell? at h1 ⊢
  simp only at h1 ⊢
  rw [hk]
  exact h1

theorem run_load_cells {P : Program} (w : World) (B k : Nat) (t : TypeId) (X : Array Value) (hB : CellsAt w B k X) (hu : (match P.underlying t with | some (.struct _) | some (.array _ _) => true | _ => false) = true)
    (hn : (P.info? t).map (·.size) = some X.size) : (loadVar t ⟨B, k, none⟩).run P w = .ok (.agg X) w := by
  have hl : (loadCells ⟨B, k, none⟩ X.toList.length).run P w = .ok X.toList.toArray w :=
    run_loadCells_list (P := P) w ⟨B, k, none⟩ X.toList (fun j v hv => by
      have hadd : (⟨B, k, none⟩ : Addr).add j = ⟨B, k + j, none⟩ := by unfold Addr.add; split <;> simp_all
      rw [hadd]
      exact hB j v (by simpa using hv))
  cases hq : P.info? t with
  | none => simp [hq] at hn
  | some i =>
    have hs : i.size = X.toList.length := by simp [hq] at hn; simpa using hn
    cases hd : P.underlying t with
    | none => simp [hd] at hu
    | some d =>
      cases d <;> simp [hd] at hu <;> simp [loadVar, isAgg, run_underlying hd, sizeOf, typeInfo, hq, hs] <;> (simp at hl; simp [hl])

theorem exec_load_cells {P : Program} {a : Act} {o : Oper} {w : World} {x : Operand} {B k : Nat} (t : TypeId) (X : Array Value) (ho : o.op = .load t x) (hx : a.eval x = .pointer (some ⟨B, k, none⟩)) (hB : CellsAt w B k X)
    (hu : (match P.underlying t with | some (.struct _) | some (.array _ _) => true | _ => false) = true) (hn : (P.info? t).map (·.size) = some X.size) :
    (execOp a.eval o).run P w = .ok (.value (.agg X)) w := by
  have h := run_load_cells (P := P) w B k t X hB hu hn
  unfold execOp
  simp only [ho, hx, Instr.loadAt, Instr.sureAddr, Sem.run_bind, Sem.run_pure, Result.andThen_ok, h]

theorem load_cells {P : Program} {ops : Array Oper} {rest : List Oper} {o : Oper} {a : Act} {w : World} {Q : Exit → Act → World → Prop} {x : Operand} {B k : Nat} (t : TypeId) (X : Array Value) (hw : Region.wanted o (yielded ops a.tmps) = true) (ho : o.op = .load t x)
    (hx : a.eval x = .pointer (some ⟨B, k, none⟩)) (hB : CellsAt w B k X) (hu : (match P.underlying t with | some (.struct _) | some (.array _ _) => true | _ => false) = true) (hn : (P.info? t).map (·.size) = some X.size)
    (h : wpList P ops Q rest (a.put o.dst (.agg X)) w) : wpList P ops Q (o :: rest) a w :=
  wpList_step fun K hK => by
    rw [if_pos hw]
    have h1 := exec_load_cells (P := P) t X ho hx hB hu hn
    unfold Oper.wp
    rw [h1]
    exact hK _ _ h

theorem st_whole (Z : Array Value) (X : Array Value) (h : Z.size = X.size) : (Z.toList.take 0 ++ (Value.agg X).cells.toList ++ Z.toList.drop (0 + (Value.agg X).cells.toList.length)).toArray = X := by
  have : (Value.agg X).cells = X := rfl
  rw [this]
  apply Array.toList_inj.1
  simp [h]

end Go.Proofs.Ytdceggekhhflgaa
