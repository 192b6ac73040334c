/- A store in a drawn region; an array's element at a variable index; a single cell stored. -/
import Derived.Test.YtdceggekhhflgaaBy
import Derived.Test.YtdceggekhhflgaaBlk
namespace Go.Proofs.Ytdceggekhhflgaa
open Go.RowKit
attribute [local go_sem ↓] Go.wp_at_zero Go.wp_at_succ
set_option linter.unusedSimpArgs false
set_option linter.unusedVariables false
set_option maxRecDepth 100000

theorem wp_store_op {P : Program} {o : Oper} {a : Act} {w : World} {K : Act → World → Prop} {Q : Exit → Act → World → Prop} {p x : Operand} {B k : Nat} {T : TypeId} {C : Array Value} (t : TypeId) (v : Value) (C' : Array Value) (ho : o.op = .store t p x)
    (hp : a.eval p = .pointer (some ⟨B, k, none⟩)) (hx : a.eval x = v) (hB : Blk w B T C) (hn : (P.info? t).map (·.size) = some v.cells.size) (hk : k + v.cells.toList.length ≤ C.size) (h1 : v.cells.toList.all (·.oneCell') = true)
    (hC : (C.toList.take k ++ v.cells.toList ++ C.toList.drop (k + v.cells.toList.length)).toArray = C')
    (hK : ∀ w', Blk w' B T C' → Below B w w' → w.grownBy w' (some B) → K (a.put o.dst undef) w') : Oper.wp P o a w K Q := by
  have h3 := run_store_blk (P := P) w B k T t C C' v hB hn hk h1 hC
  have hFr := hB.setRow C'
  have hbl : Below B w (w.setRow B C') := below_setRow (Below.refl _ _) (Nat.le_refl _) _
  have hg : w.grownBy (w.setRow B C') (some B) := ⟨rfl, rfl, rfl, by simp, fun j _ hj => setRow_other w B j C' (by intro e; subst e; exact hj rfl)⟩
  unfold Oper.wp execOp
  simp only [ho, hp, hx, Instr.storeAt, Instr.sureAddr, Sem.run_bind, Sem.run_pure, Result.andThen_ok, h3]
  exact hK _ hFr hbl hg

theorem run_index_arr {P : Program} (w : World) (t e : TypeId) (n k : Nat) (X : Array Value) (v : Value) (ht : P.underlying t = some (.array n e)) (hs : (P.info? e).map (·.size) = some 1) (hk : k < n)
    (hu : (match P.underlying e with | some (.struct _) | some (.array _ _) => true | some _ => false | none => true) = false) (hv : X[k]? = some v) : (Instr.index t (.agg X) (.int .i64 k)).run P w = .ok v w := by
  have h1 := run_part_one (P := P) w e X (k * 1) v hu (by rw [Nat.mul_one]; exact hv)
  cases hq : P.info? e with
  | none => simp [hq] at hs
  | some i =>
    have hs' : i.size = 1 := by simpa [hq] using hs
    have hk' : (0 : Int) ≤ (k : Int) ∧ (k : Int) < (n : Int) := by omega
    rw [Nat.mul_one] at h1
    simp only [Instr.index, asIntOf, Sem.run_bind, Sem.run_pure, run_underlying ht, Result.andThen_ok, if_pos hk', Int.toNat_natCast, sizeOf, typeInfo, hq, hs', h1]
    simp [hq, hs', h1]

theorem index_blk {P : Program} {ops : Array Oper} {rest : List Oper} {o : Oper} {a : Act} {w : World} {Q : Exit → Act → World → Prop} {x i : Operand} {t : TypeId} {k : Nat} (X : Array Value) (v : Value) (hw : Region.wanted o (yielded ops a.tmps) = true) (ho : o.op = .index t x i)
    (hx : a.eval x = .agg X) (hi : a.eval i = .int .i64 k) (hr : (Instr.index t (.agg X) (.int .i64 k)).run P w = .ok v w) (h : wpList P ops Q rest (a.put o.dst v) w) : wpList P ops Q (o :: rest) a w :=
  wpList_step fun K hK => by
    rw [if_pos hw]
    unfold Oper.wp execOp
    simp only [ho, hx, hi, Sem.run_bind, Sem.run_pure, Result.andThen_ok, hr]
    exact hK _ _ h

theorem wp_load_op {P : Program} {o : Oper} {a : Act} {w : World} {K : Act → World → Prop} {Q : Exit → Act → World → Prop} {x : Operand} {B k : Nat} {T : TypeId} {C : Array Value} (t : TypeId) (X : Array Value) (ho : o.op = .load t x) (hx : a.eval x = .pointer (some ⟨B, k, none⟩)) (hB : Blk w B T C)
    (hu : (match P.underlying t with | some (.struct _) | some (.array _ _) => true | _ => false) = true) (hn : (P.info? t).map (·.size) = some X.size) (hC : (C.toList.drop k).take X.size = X.toList)
    (hK : K (a.put o.dst (.agg X)) w) : Oper.wp P o a w K Q := by
  have h1 := exec_load_blk (P := P) t X ho hx hB hu hn hC
  unfold Oper.wp
  rw [h1]
  exact hK

/-- One cell of a block is stored. -/
theorem st_cell (C C' : Array Value) (q : Nat) (v : Value) (hv : v.cells = #[v]) (hq : q < C.size) (h : C.setIfInBounds q v = C') : (C.toList.take q ++ v.cells.toList ++ C.toList.drop (q + v.cells.toList.length)).toArray = C' := by
  rw [hv, ← h]
  apply Array.toList_inj.1
  show C.toList.take q ++ [v] ++ C.toList.drop (q + 1) = _
  rw [Array.toList_setIfInBounds, List.set_eq_take_append_cons_drop, if_pos (by simpa using hq), List.append_assoc]
  rfl

end Go.Proofs.Ytdceggekhhflgaa
