/- Messages of links as values. -/
import Derived.Test.YtocgnbbnaamjjaaDoorLcMath
import Derived.Test.YtocgnbbnaamjjaaDoorBlk
import Derived.Test.YtocgnbbnaamjjaaDoorBy
namespace Go.Proofs.YtocgnbbnaamjjaaDoor
open Go.RowKit
set_option linter.unusedVariables false
set_option maxRecDepth 100000

def pyC (p : Py) : Array Value := #[.int .i64 p.sp, .int .u8 (p.sy 0), .int .u8 (p.sy 1), .int .u8 (p.sy 2), .int .u8 (p.sy 3), .int .u8 (p.sy 4), .int .u8 (p.sy 5), .int .i64 p.ke, .int .i64 p.pp, .int .i64 p.po, .int .i64 p.st]

def lcC (l : Lc) : Array Value := #[.int .i64 l.a.sp, .int .u8 (l.a.sy 0), .int .u8 (l.a.sy 1), .int .u8 (l.a.sy 2), .int .u8 (l.a.sy 3), .int .u8 (l.a.sy 4), .int .u8 (l.a.sy 5), .int .i64 l.a.ke, .int .i64 l.a.pp, .int .i64 l.a.po, .int .i64 l.a.st,
  .int .i64 l.p.sp, .int .u8 (l.p.sy 0), .int .u8 (l.p.sy 1), .int .u8 (l.p.sy 2), .int .u8 (l.p.sy 3), .int .u8 (l.p.sy 4), .int .u8 (l.p.sy 5), .int .i64 l.p.ke, .int .i64 l.p.pp, .int .i64 l.p.po, .int .i64 l.p.st, .int .i64 l.de]

def mkC (m : Mk) : Array Value := #[.bool m.re, .int .i64 m.po, .int .u8 (m.sy 0), .int .u8 (m.sy 1), .int .u8 (m.sy 2), .int .u8 (m.sy 3), .int .u8 (m.sy 4), .int .u8 (m.sy 5), .int .i64 m.tx]

theorem Tryd.pyZero : (Tryd.prog.info? 25).map (·.zero) = some (some (.agg (pyC zPy))) := by kernel_rfl

theorem Tryd.lcZero : (Tryd.prog.info? 27).map (·.zero) = some (some (.agg (lcC zLc))) := by kernel_rfl

theorem Tryd.mkZero : (Tryd.prog.info? 38).map (·.zero) = some (some (.agg (mkC zMk))) := by kernel_rfl

def eqPy (a b : Py) : Bool := (a.sp == b.sp) && (eqN 6 a.sy b.sy && ((a.ke == b.ke) && ((a.pp == b.pp) && ((a.po == b.po) && (a.st == b.st)))))

def eqLc (a b : Lc) : Bool := eqPy a.a b.a && (eqPy a.p b.p && (a.de == b.de))

def eqMk (a b : Mk) : Bool := (a.re == b.re) && ((a.po == b.po) && (eqN 6 a.sy b.sy && (a.tx == b.tx)))

theorem run_eql_py (d : Nat) (a b : Py) (w : World) : (Op.equalIn (d + 3) 25 (.agg (pyC a)) (.agg (pyC b))).run Tryd.prog w = .ok (eqPy a b) w := by
  have hs : Tryd.prog.stoodInHeld 25 = false := by kernel_rfl
  have hu : Tryd.prog.underlying 25 = some (.struct (Tryd.prog.fieldsOf 25)) := by kernel_rfl
  have hf : (Tryd.prog.fieldsOf 25).toList.map (fun f => (f.name == "_", f.type, f.offset)) = [(false, 3, 0), (false, 23, 1), (false, 3, 7), (false, 3, 8), (false, 3, 9), (false, 3, 10)] := by kernel_rfl
  rw [run_equalIn_agg w (d + 2) 25 _ _ hu hs]
  obtain ⟨f0, l0, h0, g0, hf⟩ := List.map_eq_cons_iff.1 hf
  obtain ⟨f1, l1, rfl, g1, hf⟩ := List.map_eq_cons_iff.1 hf
  obtain ⟨f2, l2, rfl, g2, hf⟩ := List.map_eq_cons_iff.1 hf
  obtain ⟨f3, l3, rfl, g3, hf⟩ := List.map_eq_cons_iff.1 hf
  obtain ⟨f4, l4, rfl, g4, hf⟩ := List.map_eq_cons_iff.1 hf
  obtain ⟨f5, l5, rfl, g5, hf⟩ := List.map_eq_cons_iff.1 hf
  obtain rfl := List.map_eq_nil_iff.1 hf
  rw [h0]
  have e0 := run_equalIn_int (P := Tryd.prog) w (d + 1) 3 .i64 .i64 (a.sp) (b.sp) Tryd.underlying3
  have e1 := run_eql_c6 (d + 0) a.sy b.sy w
  have e2 := run_equalIn_int (P := Tryd.prog) w (d + 1) 3 .i64 .i64 (a.ke) (b.ke) Tryd.underlying3
  have e3 := run_equalIn_int (P := Tryd.prog) w (d + 1) 3 .i64 .i64 (a.pp) (b.pp) Tryd.underlying3
  have e4 := run_equalIn_int (P := Tryd.prog) w (d + 1) 3 .i64 .i64 (a.po) (b.po) Tryd.underlying3
  have e5 := run_equalIn_int (P := Tryd.prog) w (d + 1) 3 .i64 .i64 (a.st) (b.st) Tryd.underlying3
  have h := run_eqFields_cons w (d + 2) (pyC a) (pyC b) f0 _ _ _ _ _ _ _ g0 (run_part_one w _ _ 0 _ (by kernel_rfl) rfl) (run_part_one w _ _ 0 _ (by kernel_rfl) rfl) e0
    (run_eqFields_cons w (d + 2) (pyC a) (pyC b) f1 _ _ _ _ _ _ _ g1 (run_part_agg w _ _ 1 6 (c6 a.sy) (by kernel_rfl) (by kernel_rfl) rfl) (run_part_agg w _ _ 1 6 (c6 b.sy) (by kernel_rfl) (by kernel_rfl) rfl) e1
    (run_eqFields_cons w (d + 2) (pyC a) (pyC b) f2 _ _ _ _ _ _ _ g2 (run_part_one w _ _ 7 _ (by kernel_rfl) rfl) (run_part_one w _ _ 7 _ (by kernel_rfl) rfl) e2
    (run_eqFields_cons w (d + 2) (pyC a) (pyC b) f3 _ _ _ _ _ _ _ g3 (run_part_one w _ _ 8 _ (by kernel_rfl) rfl) (run_part_one w _ _ 8 _ (by kernel_rfl) rfl) e3
    (run_eqFields_cons w (d + 2) (pyC a) (pyC b) f4 _ _ _ _ _ _ _ g4 (run_part_one w _ _ 9 _ (by kernel_rfl) rfl) (run_part_one w _ _ 9 _ (by kernel_rfl) rfl) e4
    (run_eqFields_cons w (d + 2) (pyC a) (pyC b) f5 _ _ _ _ _ _ _ g5 (run_part_one w _ _ 10 _ (by kernel_rfl) rfl) (run_part_one w _ _ 10 _ (by kernel_rfl) rfl) e5
    (run_eqFields_nil w (d + 2) _ _))))))
  rw [Bool.and_true] at h
  exact h

theorem run_eql_lc (d : Nat) (a b : Lc) (w : World) : (Op.equalIn (d + 4) 27 (.agg (lcC a)) (.agg (lcC b))).run Tryd.prog w = .ok (eqLc a b) w := by
  have hs : Tryd.prog.stoodInHeld 27 = false := by kernel_rfl
  have hu : Tryd.prog.underlying 27 = some (.struct (Tryd.prog.fieldsOf 27)) := by kernel_rfl
  have hf : (Tryd.prog.fieldsOf 27).toList.map (fun f => (f.name == "_", f.type, f.offset)) = [(false, 25, 0), (false, 25, 11), (false, 3, 22)] := by kernel_rfl
  rw [run_equalIn_agg w (d + 3) 27 _ _ hu hs]
  obtain ⟨f0, l0, h0, g0, hf⟩ := List.map_eq_cons_iff.1 hf
  obtain ⟨f1, l1, rfl, g1, hf⟩ := List.map_eq_cons_iff.1 hf
  obtain ⟨f2, l2, rfl, g2, hf⟩ := List.map_eq_cons_iff.1 hf
  obtain rfl := List.map_eq_nil_iff.1 hf
  rw [h0]
  have e0 := run_eql_py (d + 0) a.a b.a w
  have e1 := run_eql_py (d + 0) a.p b.p w
  have e2 := run_equalIn_int (P := Tryd.prog) w (d + 2) 3 .i64 .i64 (a.de) (b.de) Tryd.underlying3
  have h := run_eqFields_cons w (d + 3) (lcC a) (lcC b) f0 _ _ _ _ _ _ _ g0 (run_part_agg w _ _ 0 11 (pyC a.a) (by kernel_rfl) (by kernel_rfl) rfl) (run_part_agg w _ _ 0 11 (pyC b.a) (by kernel_rfl) (by kernel_rfl) rfl) e0
    (run_eqFields_cons w (d + 3) (lcC a) (lcC b) f1 _ _ _ _ _ _ _ g1 (run_part_agg w _ _ 11 11 (pyC a.p) (by kernel_rfl) (by kernel_rfl) rfl) (run_part_agg w _ _ 11 11 (pyC b.p) (by kernel_rfl) (by kernel_rfl) rfl) e1
    (run_eqFields_cons w (d + 3) (lcC a) (lcC b) f2 _ _ _ _ _ _ _ g2 (run_part_one w _ _ 22 _ (by kernel_rfl) rfl) (run_part_one w _ _ 22 _ (by kernel_rfl) rfl) e2
    (run_eqFields_nil w (d + 3) _ _)))
  rw [Bool.and_true] at h
  exact h

theorem run_eql_mk (d : Nat) (a b : Mk) (w : World) : (Op.equalIn (d + 3) 38 (.agg (mkC a)) (.agg (mkC b))).run Tryd.prog w = .ok (eqMk a b) w := by
  have hs : Tryd.prog.stoodInHeld 38 = false := by kernel_rfl
  have hu : Tryd.prog.underlying 38 = some (.struct (Tryd.prog.fieldsOf 38)) := by kernel_rfl
  have hf : (Tryd.prog.fieldsOf 38).toList.map (fun f => (f.name == "_", f.type, f.offset)) = [(false, 4, 0), (false, 3, 1), (false, 23, 2), (false, 3, 8)] := by kernel_rfl
  rw [run_equalIn_agg w (d + 2) 38 _ _ hu hs]
  obtain ⟨f0, l0, h0, g0, hf⟩ := List.map_eq_cons_iff.1 hf
  obtain ⟨f1, l1, rfl, g1, hf⟩ := List.map_eq_cons_iff.1 hf
  obtain ⟨f2, l2, rfl, g2, hf⟩ := List.map_eq_cons_iff.1 hf
  obtain ⟨f3, l3, rfl, g3, hf⟩ := List.map_eq_cons_iff.1 hf
  obtain rfl := List.map_eq_nil_iff.1 hf
  rw [h0]
  have e0 := run_equalIn_bool (P := Tryd.prog) w (d + 1) 4 (a.re) (b.re) Tryd.underlying4
  have e1 := run_equalIn_int (P := Tryd.prog) w (d + 1) 3 .i64 .i64 (a.po) (b.po) Tryd.underlying3
  have e2 := run_eql_c6 (d + 0) a.sy b.sy w
  have e3 := run_equalIn_int (P := Tryd.prog) w (d + 1) 3 .i64 .i64 (a.tx) (b.tx) Tryd.underlying3
  have h := run_eqFields_cons w (d + 2) (mkC a) (mkC b) f0 _ _ _ _ _ _ _ g0 (run_part_one w _ _ 0 _ (by kernel_rfl) rfl) (run_part_one w _ _ 0 _ (by kernel_rfl) rfl) e0
    (run_eqFields_cons w (d + 2) (mkC a) (mkC b) f1 _ _ _ _ _ _ _ g1 (run_part_one w _ _ 1 _ (by kernel_rfl) rfl) (run_part_one w _ _ 1 _ (by kernel_rfl) rfl) e1
    (run_eqFields_cons w (d + 2) (mkC a) (mkC b) f2 _ _ _ _ _ _ _ g2 (run_part_agg w _ _ 2 6 (c6 a.sy) (by kernel_rfl) (by kernel_rfl) rfl) (run_part_agg w _ _ 2 6 (c6 b.sy) (by kernel_rfl) (by kernel_rfl) rfl) e2
    (run_eqFields_cons w (d + 2) (mkC a) (mkC b) f3 _ _ _ _ _ _ _ g3 (run_part_one w _ _ 8 _ (by kernel_rfl) rfl) (run_part_one w _ _ 8 _ (by kernel_rfl) rfl) e3
    (run_eqFields_nil w (d + 2) _ _))))
  rw [Bool.and_true] at h
  exact h

theorem eqN6_iff (x y : Nat → Nat) : eqN 6 x y = true ↔ ∀ i, i < 6 → x i = y i := by
  unfold eqN
  rw [List.all_eq_true]
  constructor
  · intro h i hi
    have := h i (List.mem_range.2 hi)
    rw [beq_iff_eq] at this
    exact Int.ofNat.inj this
  · intro h i hi
    have := h i (List.mem_range.1 hi)
    simp [this]

theorem eqPy_iff (a b : Py) : eqPy a b = true ↔ eqvPy a b := by
  unfold eqPy eqvPy
  simp only [Bool.and_eq_true, beq_iff_eq, eqN6_iff]

theorem eqLc_iff (a b : Lc) : eqLc a b = true ↔ eqvLc a b := by
  unfold eqLc eqvLc
  simp only [Bool.and_eq_true, beq_iff_eq, eqPy_iff]

theorem eqMk_iff (a b : Mk) : eqMk a b = true ↔ eqvMk a b := by
  unfold eqMk eqvMk
  simp only [Bool.and_eq_true, beq_iff_eq, eqN6_iff]

theorem eqvPy.refl (a : Py) : eqvPy a a := ⟨rfl, fun _ _ => rfl, rfl, rfl, rfl, rfl⟩

theorem eqvLc.refl (a : Lc) : eqvLc a a := ⟨eqvPy.refl _, eqvPy.refl _, rfl⟩

theorem eqvMk.refl (a : Mk) : eqvMk a a := ⟨rfl, rfl, fun _ _ => rfl, rfl⟩

theorem run_eqv_lc (a b : Lc) (h : eqvLc a b) (W : World) : (Op.equalIn 10000 27 (.agg (lcC a)) (.agg (lcC b))).run Tryd.prog W = .ok true W := by
  have q := run_eql_lc 9996 a b W
  rw [(eqLc_iff a b).2 h] at q
  exact q

theorem run_eqv_mk (a b : Mk) (h : eqvMk a b) (W : World) : (Op.equalIn 10000 38 (.agg (mkC a)) (.agg (mkC b))).run Tryd.prog W = .ok true W := by
  have q := run_eql_mk 9997 a b W
  rw [(eqMk_iff a b).2 h] at q
  exact q

theorem pyC_congr {a b : Py} (h : eqvPy a b) : pyC a = pyC b := by
  obtain ⟨h1, h2, h3, h4, h5, h6⟩ := h
  unfold pyC
  rw [h1, h3, h4, h5, h6, h2 0 (by decide), h2 1 (by decide), h2 2 (by decide), h2 3 (by decide), h2 4 (by decide), h2 5 (by decide)]

theorem lcC_py (x : Lc) : lcC x = ((pyC x.a).toList ++ ((pyC x.p).toList ++ [Value.int .i64 x.de])).toArray := rfl

theorem lcC_congr {a b : Lc} (h : eqvLc a b) : lcC a = lcC b := by rw [lcC_py, lcC_py, pyC_congr h.1, pyC_congr h.2.1, h.2.2]

theorem mkC_congr {a b : Mk} (h : eqvMk a b) : mkC a = mkC b := by
  obtain ⟨h1, h3, h2, h4⟩ := h
  unfold mkC
  rw [h1, h3, h4, h2 0 (by decide), h2 1 (by decide), h2 2 (by decide), h2 3 (by decide), h2 4 (by decide), h2 5 (by decide)]

end Go.Proofs.YtocgnbbnaamjjaaDoor
