/- A frame's block is made, and stored into; the reference's within. -/
import Derived.Test.YtmlnkellfbobcaaFrRight
import Derived.Test.YtmlnkellfbobcaaFrSame
import Derived.Deep.WholeRow
import Derived.Laws.CopyRow
import Derived.Laws.CopyOwn
namespace Go.Proofs.Ytmlnkellfbobcaa
open Go.RowKit
attribute [local go_sem ↓] Go.wp_at_zero Go.wp_at_succ
set_option linter.unusedSimpArgs false
set_option linter.unusedVariables false
set_option maxRecDepth 100000

/-- The frame of nothing. -/
def zF : Fr := ⟨fun _ => 0, fun _ => 0, none, [], 0, 0, 0, 0, 0, 0, 0, 0, ByteArray.empty⟩
theorem Try.frZero : (Try.prog.info? 26).map (·.zero) = some (some (.agg (frC zF))) := by kernel_rfl
theorem frC_one (f : Fr) : (frC f).toList.all (·.oneCell') = true := by rfl
theorem frC_size (f : Fr) : (frC f).size = 21 := by rfl

theorem run_alloc_fr (w : World) : (Instr.alloc 26 true (.tuple #[])).run Try.prog w = .ok (.pointer (some ⟨w.heap.size, 0, none⟩)) (w.alloc (.cells (frC zF) 26)) := by
  have hz := Try.frZero
  cases hi : Try.prog.info? 26 with
  | none => rw [hi] at hz; cases hz
  | some i =>
    rw [hi] at hz
    simp only [Option.map_some, Option.some.injEq] at hz
    simp [Instr.alloc, zeroValue, typeInfo, hi, hz, newVar, newRow, newObj, Value.cells]
    rfl

theorem alloc_fr {ops : Array Oper} {rest : List Oper} {o : Oper} {a : Act} {w : World} {Q : Exit → Act → World → Prop} (hw : Region.wanted o (yielded ops a.tmps) = true) (ho : o.op = .alloc 26)
    (h : wpList Try.prog ops Q rest (a.put o.dst (.pointer (some ⟨w.heap.size, 0, none⟩))) (w.alloc (.cells (frC zF) 26))) : wpList Try.prog ops Q (o :: rest) a w :=
  wpList_step fun K hK => by
    rw [if_pos hw]
    unfold Oper.wp execOp
    simp only [ho, Sem.run_bind, Sem.run_pure, Result.andThen_ok, run_alloc_fr]
    exact hK _ _ h

/-- Cells are stored into a block of a frame: it then holds another. -/
theorem store_fld {ops : Array Oper} {rest : List Oper} {o : Oper} {a : Act} {w : World} {Q : Exit → Act → World → Prop} (p x : Operand) (B k : Nat) (r r' : Fr) (t : TypeId) (v : Value) (hw : Region.wanted o (yielded ops a.tmps) = true) (ho : o.op = .store t p x)
    (hp : a.eval p = .pointer (some ⟨B, k, none⟩)) (hx : a.eval x = v) (hn : (Try.prog.info? t).map (·.size) = some v.cells.size) (hk : k + v.cells.toList.length ≤ 21) (h1 : v.cells.toList.all (·.oneCell') = true)
    (hC : ((frC r).toList.take k ++ v.cells.toList ++ (frC r).toList.drop (k + v.cells.toList.length)).toArray = frC r') (hF : HasF w B r)
    (h : ∀ w', HasF w' B r' → Below B w w' → wpList Try.prog ops Q rest (a.put o.dst undef) w') : wpList Try.prog ops Q (o :: rest) a w :=
  wpList_step fun K hK => by
    rw [if_pos hw]
    have h2 := run_storeCells_at (P := Try.prog) B k 26 v.cells.toList 0 (frC r) w hF (by rw [frC_size]; omega) (fun c hc => (List.all_eq_true.1 h1) c hc)
    have h3 : (storeVar t ⟨B, k, none⟩ v).run Try.prog w = .ok () (w.setRow B (frC r')) := by
      cases hi : Try.prog.info? t with
      | none => rw [hi] at hn; cases hn
      | some i =>
        rw [hi] at hn
        simp only [Option.map_some, Option.some.injEq] at hn
        rw [← hC]
        simp only [Nat.add_zero] at h2
        simp [storeVar, sizeOf, typeInfo, hi, hn, h2]
    have hFr : HasF (w.setRow B (frC r')) B r' := by
      have hF' := hF
      unfold HasF at hF' ⊢
      simp only [World.setRow, Array.getElem?_modify, hF', if_true, Option.map_some]
    have hB : Below B w (w.setRow B (frC r')) := below_setRow (Below.refl _ _) (Nat.le_refl _) _
    unfold Oper.wp execOp
    simp only [ho, hp, hx, Instr.storeAt, Instr.sureAddr, Sem.run_bind, Sem.run_pure, Result.andThen_ok, h3]
    exact hK _ _ (h _ hFr hB)

def inB (n lo hi : Int) : Bool := decide (lo ≤ n) && decide (n ≤ hi)

theorem within_any (n lo hi : Int) (w : World) :
    Calls Try.prog 15 #[.int .i64 n, .int .i64 lo, .int .i64 hi] w fun e w' => e = .returned (.bool (inB n lo hi)) ∧ w = w' := by
  unfold inB
  by_cases h1 : lo ≤ n
  · by_cases h2 : n ≤ hi
    · have hd8 : decide (n ≤ hi) = true := decide_eq_true h2
      have hd1 : decide (lo ≤ n) = true := decide_eq_true h1
      rw [hd8, hd1]
      go_enter Try.func15, Try.ntmps15
      go_wp2
      go_ret
      exact ⟨rfl, rfl⟩
    · have hd8 : decide (n ≤ hi) = false := decide_eq_false (by omega)
      have hd1 : decide (lo ≤ n) = true := decide_eq_true h1
      rw [hd8, hd1]
      go_enter Try.func15, Try.ntmps15
      go_wp2
      go_ret
      exact ⟨rfl, rfl⟩
  · have hd1 : decide (lo ≤ n) = false := decide_eq_false (by omega)
    rw [hd1, Bool.false_and]
    go_enter Try.func15, Try.ntmps15
    go_wp2
    go_ret
    exact ⟨rfl, rfl⟩

def bare1 (f : Fr) : Fr := { f with d := fun _ => 0 }
def bare2 (f : Fr) : Fr := { f with d := fun _ => 0, s := fun _ => 0 }
def bare3 (f : Fr) : Fr := { f with d := fun _ => 0, s := fun _ => 0, ta := none, tl := [], tc := 0 }
def bare4 (f : Fr) : Fr := { f with d := fun _ => 0, s := fun _ => 0, ta := none, tl := [], tc := 0, bo := ByteArray.empty }
/-- The frame without what all kinds have. -/
def bareF (f : Fr) : Fr := { f with d := fun _ => 0, s := fun _ => 0, ta := none, tl := [], tc := 0, bo := ByteArray.empty, k := 0 }
theorem bareF_t (f : Fr) : (bareF f).t = f.t ∧ (bareF f).da = f.da ∧ (bareF f).sa = f.sa ∧ (bareF f).ct = f.ct ∧ (bareF f).ou = f.ou ∧ (bareF f).pi = f.pi := ⟨rfl, rfl, rfl, rfl, rfl, rfl⟩
theorem frIn_bare (w : World) (r : Fr) (h1 : r.tl = []) (h2 : r.bo = ByteArray.empty) : FrIn w r := ⟨Or.inl h1, by rw [h1]; simp, by rw [h1]; simp, by rw [h2]; simp⟩

theorem typ_no1 (n : Int) (h : inB n 1536 65535 = false) : typB n = false := by
  simp [inB, typB] at h ⊢; omega
theorem typ_no0 (n : Int) (h : ¬ inB n 1536 65535 = true) : typB n = false := typ_no1 n (by simpa using h)
theorem typ_no2 (n : Int) (h : (n == 33024) = true ∨ (n == 34984) = true) : typB n = false := by
  simp [typB] at h ⊢; omega
theorem typ_no3 (n : Int) (h : n = 33024) : typB n = false := by
  simp [typB]; omega
theorem typ_no4 (n : Int) (h : n = 34984) : typB n = false := by
  simp [typB]; omega
theorem typ_yes (n : Int) (h : inB n 1536 65535 = true) (h2 : (n == 33024) = false ∧ (n == 34984) = false) : typB n = true := by
  simp [inB, typB] at h h2 ⊢; omega

theorem size_int' : Try.prog.cellsOf 3 = 1 := by kernel_rfl
theorem infoInt' : ∃ i, Try.prog.info? 3 = some i := Option.isSome_iff_exists.1 (by kernel_rfl)
theorem run_eql_lead (a b c : Int) (w : World) :
    (Op.equalIn 10000 34 (.agg #[.int .i64 a, .int .i64 b, .int .i64 c]) (.agg #[.int .i64 170, .int .i64 170, .int .i64 3])).run Try.prog w = .ok (leadB a b c) w := by
  obtain ⟨i, hi⟩ := infoInt'
  rw [run_equalIn_array w 9999 _ _ Try.underlying34 hi, size_int']
  have h := run_eqItems_ints w 9998 3 .i64 .i64 Try.underlying3 (fun i => if i = 0 then a else if i = 1 then b else c) (fun i => if i = 0 then 170 else if i = 1 then 170 else 3)
    #[.int .i64 a, .int .i64 b, .int .i64 c] #[.int .i64 170, .int .i64 170, .int .i64 3] (List.range 3) (fun i hi => by
      have hi6 : i < 3 := by simpa using hi
      have : i = 0 ∨ i = 1 ∨ i = 2 := by omega
      rcases this with rfl | rfl | rfl <;> exact ⟨rfl, rfl⟩)
  refine h.trans ?_
  congr 1
  simp [leadB, List.range_succ]
theorem llc_no1 (f : Fr) (X : Bool) (h : inB f.da 0 255 = false) : (llcB f && X) = false := by
  unfold llcB upB; unfold inB at h; simp only [List.all_cons, List.all_nil, h, Bool.and_true, Bool.false_and]
theorem llc_no2 (f : Fr) (X : Bool) (h : inB f.sa 0 255 = false) : (llcB f && X) = false := by
  unfold llcB upB; unfold inB at h; simp only [List.all_cons, List.all_nil, h, Bool.and_true, Bool.false_and, Bool.and_false]
theorem llc_no3 (f : Fr) (X : Bool) (h : inB f.ct 0 255 = false) : (llcB f && X) = false := by
  unfold llcB upB; unfold inB at h; simp only [List.all_cons, List.all_nil, h, Bool.and_true, Bool.false_and, Bool.and_false]
theorem llc_no4 (f : Fr) (X : Bool) (h : leadB f.da f.sa f.ct = true) : (llcB f && X) = false := by
  unfold llcB; simp only [h, Bool.not_true, Bool.and_false, Bool.false_and]
theorem llc_yes (f : Fr) (X : Bool) (h1 : inB f.da 0 255 = true) (h2 : inB f.sa 0 255 = true) (h3 : inB f.ct 0 255 = true) (h4 : leadB f.da f.sa f.ct = false) (h5 : hdI f.k + f.bo.size ≤ 1500) : (llcB f && (decide (hdI f.k + f.bo.size ≤ 1500) && X)) = X := by
  unfold llcB upB; unfold inB at h1 h2 h3; simp only [List.all_cons, List.all_nil, h1, h2, h3, h4, decide_eq_true h5, Bool.and_true, Bool.true_and, Bool.not_false]
theorem snap_no1 (f : Fr) (X : Bool) (h : inB f.ou 0 16777215 = false) : (snapB f && X) = false := by
  unfold snapB upB; unfold inB at h; simp only [List.all_cons, List.all_nil, h, Bool.and_true, Bool.false_and]
theorem snap_no2 (f : Fr) (X : Bool) (h : inB f.pi 0 65535 = false) : (snapB f && X) = false := by
  unfold snapB upB; unfold inB at h; simp only [List.all_cons, List.all_nil, h, Bool.and_true, Bool.false_and, Bool.and_false]
theorem inner_no (b : Bool) (x : Int) (X : Bool) (h : 1500 < x) : (b && (decide (x ≤ 1500) && X)) = false := by
  rw [decide_eq_false (by omega)]; simp
theorem snap_yes (f : Fr) (X : Bool) (h1 : inB f.ou 0 16777215 = true) (h2 : inB f.pi 0 65535 = true) (h3 : hdI f.k + f.bo.size ≤ 1500) : (snapB f && (decide (hdI f.k + f.bo.size ≤ 1500) && X)) = X := by
  unfold snapB upB; unfold inB at h1 h2; simp only [List.all_cons, List.all_nil, h1, h2, decide_eq_true h3, Bool.and_true, Bool.true_and]
theorem no_of (b : Bool) (h : ¬ b = true) : b = false := by simpa using h
theorem upB0 (l : List Int) : upB 0 l = l.all (· == 0) := by
  unfold upB
  congr 1
  funext x
  rw [Bool.eq_iff_iff]
  simp
  omega
theorem snap_up (t da sa ct : Int) : upB 0 [t, da, sa, ct, 0, 0] = upB 0 [t, da, sa, ct] := by
  rw [upB0, upB0]; simp
theorem llc_up (t ou pi : Int) : upB 0 [t, 0, 0, 0, ou, pi] = upB 0 [t, ou, pi] := by
  rw [upB0, upB0]; simp

/-- The zero frame is held against one without what all kinds have. -/
theorem same_zero (r : Fr) (h1 : r.d = fun _ => 0) (h2 : r.s = fun _ => 0) (h3 : r.tl = []) (h4 : r.k = 0) (h5 : r.bo = ByteArray.empty) : sameB r zF = upB 0 [r.t, r.da, r.sa, r.ct, r.ou, r.pi] := by
  rw [upB0]
  unfold sameB
  rw [h1, h2, h3, h4, h5]
  simp [zF, eq6, tagsEq]
theorem upB0_cons (l : List Int) : upB 0 (0 :: l) = upB 0 l := by
  rw [upB0, upB0]
  simp

end Go.Proofs.Ytmlnkellfbobcaa
