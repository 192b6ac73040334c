/- Names and vectors held against each other by ==. -/
import Derived.Test.YtnlphldkdglofaaVecs
namespace Go.Proofs.Ytnlphldkdglofaa
open Go.RowKit
set_option linter.unusedVariables false
set_option maxRecDepth 100000

theorem Try.u8oneV : Try.prog.cellsOf 5 = 1 := by kernel_rfl

theorem Try.u8infoV : ∃ i, Try.prog.info? 5 = some i := Option.isSome_iff_exists.1 (by kernel_rfl)

theorem run_eql_ad (d : Nat) (x y : Nat → Nat) (w : World) : (Op.equalIn (d + 2) 24 (.agg (c6 x)) (.agg (c6 y))).run Try.prog w = .ok (eqN 6 x y) w := by
  obtain ⟨i, hi⟩ := Try.u8infoV
  refine run_eql_ints w d 6 24 5 .u8 .u8 i Try.underlying24 Try.underlying5 hi Try.u8oneV (fun i => (x i : Int)) (fun i => (y i : Int)) _ _ (fun j hj => ?_)
  have : j = 0 ∨ j = 1 ∨ j = 2 ∨ j = 3 ∨ j = 4 ∨ j = 5 := by omega
  rcases this with rfl | rfl | rfl | rfl | rfl | rfl <;> exact ⟨rfl, rfl⟩

/-- Equal, field by field. -/
def eqB (a b : Br) : Bool := (a.p == b.p) && ((a.e == b.e) && eqN 6 a.a b.a)

structure Pt where
  p : Int
  n : Int

def pC (p : Pt) : Array Value := ptC p.p p.n

def eqP (a b : Pt) : Bool := (a.p == b.p) && (a.n == b.n)

def eqV (a b : Ve) : Bool := eqB a.root b.root && ((a.cost == b.cost) && (eqB a.sender b.sender && (eqP ⟨a.pp, a.pn⟩ ⟨b.pp, b.pn⟩ && eqP ⟨a.ap, a.an⟩ ⟨b.ap, b.an⟩)))

theorem run_eql_br (d : Nat) (a b : Br) (w : World) : (Op.equalIn (d + 3) 37 (.agg (brC a)) (.agg (brC b))).run Try.prog w = .ok (eqB a b) w := by
  have hs : Try.prog.stoodInHeld 37 = false := by kernel_rfl
  have hu : Try.prog.underlying 37 = some (.struct (Try.prog.fieldsOf 37)) := by kernel_rfl
  have hf : (Try.prog.fieldsOf 37).toList.map (fun f => (f.name == "_", f.type, f.offset)) = [(false, 3, 0), (false, 3, 1), (false, 24, 2)] := by kernel_rfl
  rw [run_equalIn_agg w (d + 2) 37 _ _ hu hs]
  obtain ⟨f0, l0, h0, g0, hf⟩ := List.map_eq_cons_iff.1 hf
  obtain ⟨f1, l1, rfl, g1, hf⟩ := List.map_eq_cons_iff.1 hf
  obtain ⟨f2, l2, rfl, g2, hf⟩ := List.map_eq_cons_iff.1 hf
  obtain rfl := List.map_eq_nil_iff.1 hf
  rw [h0]
  have e0 := run_equalIn_int (P := Try.prog) w (d + 1) 3 .i64 .i64 (a.p) (b.p) Try.underlying3
  have e1 := run_equalIn_int (P := Try.prog) w (d + 1) 3 .i64 .i64 (a.e) (b.e) Try.underlying3
  have e2 := run_eql_ad (d + 0) a.a b.a w
  have h := run_eqFields_cons w (d + 2) (brC a) (brC b) f0 _ _ _ _ _ _ _ g0 (run_part_one w _ _ 0 _ (by kernel_rfl) rfl) (run_part_one w _ _ 0 _ (by kernel_rfl) rfl) e0
    (run_eqFields_cons w (d + 2) (brC a) (brC b) f1 _ _ _ _ _ _ _ g1 (run_part_one w _ _ 1 _ (by kernel_rfl) rfl) (run_part_one w _ _ 1 _ (by kernel_rfl) rfl) e1
    (run_eqFields_cons w (d + 2) (brC a) (brC b) f2 _ _ _ _ _ _ _ g2 (run_part_agg w _ _ 2 6 (c6 a.a) (by kernel_rfl) (by kernel_rfl) rfl) (run_part_agg w _ _ 2 6 (c6 b.a) (by kernel_rfl) (by kernel_rfl) rfl) e2
    (run_eqFields_nil w (d + 2) _ _)))
  rw [Bool.and_true] at h
  exact h

theorem run_eql_pt (d : Nat) (a b : Pt) (w : World) : (Op.equalIn (d + 3) 39 (.agg (pC a)) (.agg (pC b))).run Try.prog w = .ok (eqP a b) w := by
  have hs : Try.prog.stoodInHeld 39 = false := by kernel_rfl
  have hu : Try.prog.underlying 39 = some (.struct (Try.prog.fieldsOf 39)) := by kernel_rfl
  have hf : (Try.prog.fieldsOf 39).toList.map (fun f => (f.name == "_", f.type, f.offset)) = [(false, 3, 0), (false, 3, 1)] := by kernel_rfl
  rw [run_equalIn_agg w (d + 2) 39 _ _ hu hs]
  obtain ⟨f0, l0, h0, g0, hf⟩ := List.map_eq_cons_iff.1 hf
  obtain ⟨f1, l1, rfl, g1, hf⟩ := List.map_eq_cons_iff.1 hf
  obtain rfl := List.map_eq_nil_iff.1 hf
  rw [h0]
  have e0 := run_equalIn_int (P := Try.prog) w (d + 1) 3 .i64 .i64 (a.p) (b.p) Try.underlying3
  have e1 := run_equalIn_int (P := Try.prog) w (d + 1) 3 .i64 .i64 (a.n) (b.n) Try.underlying3
  have h := run_eqFields_cons w (d + 2) (pC a) (pC b) f0 _ _ _ _ _ _ _ g0 (run_part_one w _ _ 0 _ (by kernel_rfl) rfl) (run_part_one w _ _ 0 _ (by kernel_rfl) rfl) e0
    (run_eqFields_cons w (d + 2) (pC a) (pC b) f1 _ _ _ _ _ _ _ g1 (run_part_one w _ _ 1 _ (by kernel_rfl) rfl) (run_part_one w _ _ 1 _ (by kernel_rfl) rfl) e1
    (run_eqFields_nil w (d + 2) _ _))
  rw [Bool.and_true] at h
  exact h



theorem eqN6 (x y : Nat → Nat) : eqN 6 x y = decide (sixI x = sixI y) := by
  rw [Bool.eq_iff_iff]
  simp [eqN, sixI, List.range_succ]

theorem eqB_iff (a b : Br) : eqB a b = decide (numsB a = numsB b) := by
  rw [Bool.eq_iff_iff]
  simp [eqB, eqN6, numsB]

theorem eqV_iff (a b : Ve) : eqV a b = decide (lineV a = lineV b) := by
  rw [Bool.eq_iff_iff, decide_eq_true_iff]
  simp only [eqV, eqB_iff, eqP, Bool.and_eq_true, decide_eq_true_iff, beq_iff_eq]
  constructor
  · rintro ⟨h1, h2, h3, ⟨h4, h5⟩, h6, h7⟩
    unfold lineV
    rw [h1, h2, h3, h4, h5, h6, h7]
  · intro h
    unfold lineV at h
    obtain ⟨h1, h⟩ := List.append_inj h rfl
    obtain ⟨h2, h⟩ := List.append_inj h rfl
    obtain ⟨h3, h⟩ := List.append_inj h rfl
    simp only [List.cons.injEq, and_true] at h h2
    exact ⟨h1, h2, h3, ⟨h.1, h.2.1⟩, h.2.2⟩

theorem eqB_refl (a : Br) : eqB a a = true := by rw [eqB_iff]; simp

theorem eqV_refl (a : Ve) : eqV a a = true := by rw [eqV_iff]; simp

/-- The cells of names with the same numbers. -/
theorem brC_nums {a b : Br} (h : numsB a = numsB b) : brC a = brC b := by
  simp only [numsB, sixI, List.cons_append, List.nil_append, List.cons.injEq, Int.natCast_inj, and_true] at h
  obtain ⟨h0, h1, h2, h3, h4, h5, h6, h7⟩ := h
  simp only [brC, h0, h1, h2, h3, h4, h5, h6, h7]

end Go.Proofs.Ytnlphldkdglofaa
