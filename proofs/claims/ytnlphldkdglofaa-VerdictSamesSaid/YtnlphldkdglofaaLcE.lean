/- Messages of links as values, alone. -/
import Derived.Test.YtnlphldkdglofaaBlk
import Derived.Test.YtnlphldkdglofaaBy
import Derived.Test.YtnlphldkdglofaaVeEq
import Derived.Test.YtnlphldkdglofaaFitP
namespace Go.Proofs.Ytnlphldkdglofaa
open Go.RowKit
set_option linter.unusedVariables false
set_option maxRecDepth 100000

structure Py where
  sp : Int
  sy : Nat → Nat
  ke : Int
  pp : Int
  po : Int
  st : Int

structure Lc where
  a : Py
  p : Py
  de : Int

structure Mk where
  re : Bool
  po : Int
  sy : Nat → Nat
  tx : Int

def zPy : Py := ⟨0, z6, 0, 0, 0, 0⟩

def zLc : Lc := ⟨zPy, zPy, 0⟩

def zMk : Mk := ⟨false, 0, z6, 0⟩

def byPy (p : Py) : Prop := ∀ i, p.sy i < 256

def byLc (l : Lc) : Prop := byPy l.a ∧ byPy l.p

def byMk (m : Mk) : Prop := ∀ i, m.sy i < 256

def rgPy (p : Py) : Prop := i64R p.sp ∧ i64R p.ke ∧ i64R p.pp ∧ i64R p.po ∧ i64R p.st

def rgLc (l : Lc) : Prop := rgPy l.a ∧ rgPy l.p ∧ i64R l.de

def rgMk (m : Mk) : Prop := i64R m.po ∧ i64R m.tx

def pyC (p : Py) : Array Value := #[.int .i64 p.sp, .int .u8 (p.sy 0), .int .u8 (p.sy 1), .int .u8 (p.sy 2), .int .u8 (p.sy 3), .int .u8 (p.sy 4), .int .u8 (p.sy 5), .int .i64 p.ke, .int .i64 p.pp, .int .i64 p.po, .int .i64 p.st]

def lcC (l : Lc) : Array Value := #[.int .i64 l.a.sp, .int .u8 (l.a.sy 0), .int .u8 (l.a.sy 1), .int .u8 (l.a.sy 2), .int .u8 (l.a.sy 3), .int .u8 (l.a.sy 4), .int .u8 (l.a.sy 5), .int .i64 l.a.ke, .int .i64 l.a.pp, .int .i64 l.a.po, .int .i64 l.a.st,
  .int .i64 l.p.sp, .int .u8 (l.p.sy 0), .int .u8 (l.p.sy 1), .int .u8 (l.p.sy 2), .int .u8 (l.p.sy 3), .int .u8 (l.p.sy 4), .int .u8 (l.p.sy 5), .int .i64 l.p.ke, .int .i64 l.p.pp, .int .i64 l.p.po, .int .i64 l.p.st, .int .i64 l.de]

def mkC (m : Mk) : Array Value := #[.bool m.re, .int .i64 m.po, .int .u8 (m.sy 0), .int .u8 (m.sy 1), .int .u8 (m.sy 2), .int .u8 (m.sy 3), .int .u8 (m.sy 4), .int .u8 (m.sy 5), .int .i64 m.tx]

theorem Try.pyZero : (Try.prog.info? 54).map (·.zero) = some (some (.agg (pyC zPy))) := by kernel_rfl

theorem Try.lcZero : (Try.prog.info? 56).map (·.zero) = some (some (.agg (lcC zLc))) := by kernel_rfl

theorem Try.mkZero : (Try.prog.info? 58).map (·.zero) = some (some (.agg (mkC zMk))) := by kernel_rfl

def eqPy (a b : Py) : Bool := (a.sp == b.sp) && (eqN 6 a.sy b.sy && ((a.ke == b.ke) && ((a.pp == b.pp) && ((a.po == b.po) && (a.st == b.st)))))

def eqLc (a b : Lc) : Bool := eqPy a.a b.a && (eqPy a.p b.p && (a.de == b.de))

def eqMk (a b : Mk) : Bool := (a.re == b.re) && ((a.po == b.po) && (eqN 6 a.sy b.sy && (a.tx == b.tx)))

theorem run_eql_py (d : Nat) (a b : Py) (w : World) : (Op.equalIn (d + 3) 54 (.agg (pyC a)) (.agg (pyC b))).run Try.prog w = .ok (eqPy a b) w := by
  have hs : Try.prog.stoodInHeld 54 = false := by kernel_rfl
  have hu : Try.prog.underlying 54 = some (.struct (Try.prog.fieldsOf 54)) := by kernel_rfl
  have hf : (Try.prog.fieldsOf 54).toList.map (fun f => (f.name == "_", f.type, f.offset)) = [(false, 3, 0), (false, 24, 1), (false, 3, 7), (false, 3, 8), (false, 3, 9), (false, 3, 10)] := by kernel_rfl
  rw [run_equalIn_agg w (d + 2) 54 _ _ hu hs]
  obtain ⟨f0, l0, h0, g0, hf⟩ := List.map_eq_cons_iff.1 hf
  obtain ⟨f1, l1, rfl, g1, hf⟩ := List.map_eq_cons_iff.1 hf
  obtain ⟨f2, l2, rfl, g2, hf⟩ := List.map_eq_cons_iff.1 hf
  obtain ⟨f3, l3, rfl, g3, hf⟩ := List.map_eq_cons_iff.1 hf
  obtain ⟨f4, l4, rfl, g4, hf⟩ := List.map_eq_cons_iff.1 hf
  obtain ⟨f5, l5, rfl, g5, hf⟩ := List.map_eq_cons_iff.1 hf
  obtain rfl := List.map_eq_nil_iff.1 hf
  rw [h0]
  have e0 := run_equalIn_int (P := Try.prog) w (d + 1) 3 .i64 .i64 (a.sp) (b.sp) Try.underlying3
  have e1 := run_eql_c6 (d + 0) a.sy b.sy w
  have e2 := run_equalIn_int (P := Try.prog) w (d + 1) 3 .i64 .i64 (a.ke) (b.ke) Try.underlying3
  have e3 := run_equalIn_int (P := Try.prog) w (d + 1) 3 .i64 .i64 (a.pp) (b.pp) Try.underlying3
  have e4 := run_equalIn_int (P := Try.prog) w (d + 1) 3 .i64 .i64 (a.po) (b.po) Try.underlying3
  have e5 := run_equalIn_int (P := Try.prog) w (d + 1) 3 .i64 .i64 (a.st) (b.st) Try.underlying3
  have h := run_eqFields_cons w (d + 2) (pyC a) (pyC b) f0 _ _ _ _ _ _ _ g0 (run_part_one w _ _ 0 _ (by kernel_rfl) rfl) (run_part_one w _ _ 0 _ (by kernel_rfl) rfl) e0
    (run_eqFields_cons w (d + 2) (pyC a) (pyC b) f1 _ _ _ _ _ _ _ g1 (run_part_agg w _ _ 1 6 (c6 a.sy) (by kernel_rfl) (by kernel_rfl) rfl) (run_part_agg w _ _ 1 6 (c6 b.sy) (by kernel_rfl) (by kernel_rfl) rfl) e1
    (run_eqFields_cons w (d + 2) (pyC a) (pyC b) f2 _ _ _ _ _ _ _ g2 (run_part_one w _ _ 7 _ (by kernel_rfl) rfl) (run_part_one w _ _ 7 _ (by kernel_rfl) rfl) e2
    (run_eqFields_cons w (d + 2) (pyC a) (pyC b) f3 _ _ _ _ _ _ _ g3 (run_part_one w _ _ 8 _ (by kernel_rfl) rfl) (run_part_one w _ _ 8 _ (by kernel_rfl) rfl) e3
    (run_eqFields_cons w (d + 2) (pyC a) (pyC b) f4 _ _ _ _ _ _ _ g4 (run_part_one w _ _ 9 _ (by kernel_rfl) rfl) (run_part_one w _ _ 9 _ (by kernel_rfl) rfl) e4
    (run_eqFields_cons w (d + 2) (pyC a) (pyC b) f5 _ _ _ _ _ _ _ g5 (run_part_one w _ _ 10 _ (by kernel_rfl) rfl) (run_part_one w _ _ 10 _ (by kernel_rfl) rfl) e5
    (run_eqFields_nil w (d + 2) _ _))))))
  rw [Bool.and_true] at h
  exact h

theorem run_eql_lc (d : Nat) (a b : Lc) (w : World) : (Op.equalIn (d + 4) 56 (.agg (lcC a)) (.agg (lcC b))).run Try.prog w = .ok (eqLc a b) w := by
  have hs : Try.prog.stoodInHeld 56 = false := by kernel_rfl
  have hu : Try.prog.underlying 56 = some (.struct (Try.prog.fieldsOf 56)) := by kernel_rfl
  have hf : (Try.prog.fieldsOf 56).toList.map (fun f => (f.name == "_", f.type, f.offset)) = [(false, 54, 0), (false, 54, 11), (false, 3, 22)] := by kernel_rfl
  rw [run_equalIn_agg w (d + 3) 56 _ _ hu hs]
  obtain ⟨f0, l0, h0, g0, hf⟩ := List.map_eq_cons_iff.1 hf
  obtain ⟨f1, l1, rfl, g1, hf⟩ := List.map_eq_cons_iff.1 hf
  obtain ⟨f2, l2, rfl, g2, hf⟩ := List.map_eq_cons_iff.1 hf
  obtain rfl := List.map_eq_nil_iff.1 hf
  rw [h0]
  have e0 := run_eql_py (d + 0) a.a b.a w
  have e1 := run_eql_py (d + 0) a.p b.p w
  have e2 := run_equalIn_int (P := Try.prog) w (d + 2) 3 .i64 .i64 (a.de) (b.de) Try.underlying3
  have h := run_eqFields_cons w (d + 3) (lcC a) (lcC b) f0 _ _ _ _ _ _ _ g0 (run_part_agg w _ _ 0 11 (pyC a.a) (by kernel_rfl) (by kernel_rfl) rfl) (run_part_agg w _ _ 0 11 (pyC b.a) (by kernel_rfl) (by kernel_rfl) rfl) e0
    (run_eqFields_cons w (d + 3) (lcC a) (lcC b) f1 _ _ _ _ _ _ _ g1 (run_part_agg w _ _ 11 11 (pyC a.p) (by kernel_rfl) (by kernel_rfl) rfl) (run_part_agg w _ _ 11 11 (pyC b.p) (by kernel_rfl) (by kernel_rfl) rfl) e1
    (run_eqFields_cons w (d + 3) (lcC a) (lcC b) f2 _ _ _ _ _ _ _ g2 (run_part_one w _ _ 22 _ (by kernel_rfl) rfl) (run_part_one w _ _ 22 _ (by kernel_rfl) rfl) e2
    (run_eqFields_nil w (d + 3) _ _)))
  rw [Bool.and_true] at h
  exact h

theorem run_eql_mk (d : Nat) (a b : Mk) (w : World) : (Op.equalIn (d + 3) 58 (.agg (mkC a)) (.agg (mkC b))).run Try.prog w = .ok (eqMk a b) w := by
  have hs : Try.prog.stoodInHeld 58 = false := by kernel_rfl
  have hu : Try.prog.underlying 58 = some (.struct (Try.prog.fieldsOf 58)) := by kernel_rfl
  have hf : (Try.prog.fieldsOf 58).toList.map (fun f => (f.name == "_", f.type, f.offset)) = [(false, 4, 0), (false, 3, 1), (false, 24, 2), (false, 3, 8)] := by kernel_rfl
  rw [run_equalIn_agg w (d + 2) 58 _ _ hu hs]
  obtain ⟨f0, l0, h0, g0, hf⟩ := List.map_eq_cons_iff.1 hf
  obtain ⟨f1, l1, rfl, g1, hf⟩ := List.map_eq_cons_iff.1 hf
  obtain ⟨f2, l2, rfl, g2, hf⟩ := List.map_eq_cons_iff.1 hf
  obtain ⟨f3, l3, rfl, g3, hf⟩ := List.map_eq_cons_iff.1 hf
  obtain rfl := List.map_eq_nil_iff.1 hf
  rw [h0]
  have e0 := run_equalIn_bool (P := Try.prog) w (d + 1) 4 (a.re) (b.re) Try.underlying4
  have e1 := run_equalIn_int (P := Try.prog) w (d + 1) 3 .i64 .i64 (a.po) (b.po) Try.underlying3
  have e2 := run_eql_c6 (d + 0) a.sy b.sy w
  have e3 := run_equalIn_int (P := Try.prog) w (d + 1) 3 .i64 .i64 (a.tx) (b.tx) Try.underlying3
  have h := run_eqFields_cons w (d + 2) (mkC a) (mkC b) f0 _ _ _ _ _ _ _ g0 (run_part_one w _ _ 0 _ (by kernel_rfl) rfl) (run_part_one w _ _ 0 _ (by kernel_rfl) rfl) e0
    (run_eqFields_cons w (d + 2) (mkC a) (mkC b) f1 _ _ _ _ _ _ _ g1 (run_part_one w _ _ 1 _ (by kernel_rfl) rfl) (run_part_one w _ _ 1 _ (by kernel_rfl) rfl) e1
    (run_eqFields_cons w (d + 2) (mkC a) (mkC b) f2 _ _ _ _ _ _ _ g2 (run_part_agg w _ _ 2 6 (c6 a.sy) (by kernel_rfl) (by kernel_rfl) rfl) (run_part_agg w _ _ 2 6 (c6 b.sy) (by kernel_rfl) (by kernel_rfl) rfl) e2
    (run_eqFields_cons w (d + 2) (mkC a) (mkC b) f3 _ _ _ _ _ _ _ g3 (run_part_one w _ _ 8 _ (by kernel_rfl) rfl) (run_part_one w _ _ 8 _ (by kernel_rfl) rfl) e3
    (run_eqFields_nil w (d + 2) _ _))))
  rw [Bool.and_true] at h
  exact h


theorem eqPy_self (a : Py) : eqPy a a = true := by simp [eqPy, eqN]

theorem eqLc_self (a : Lc) : eqLc a a = true := by simp [eqLc, eqPy_self]

theorem eqMk_self (a : Mk) : eqMk a a = true := by simp [eqMk, eqN]

end Go.Proofs.Ytnlphldkdglofaa
