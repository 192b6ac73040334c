/- Flags and BPDUs as values. -/
import Derived.Test.YtnlphldkdglofaaBpPlain
import Derived.Test.YtnlphldkdglofaaVeEq
namespace Go.Proofs.Ytnlphldkdglofaa
open Go.RowKit
set_option linter.unusedVariables false
set_option maxRecDepth 100000

def flC (f : Fl) : Array Value := #[.bool f.ch, .bool f.pr, .int .i64 f.ro, .bool f.le, .bool f.pa, .bool f.ag, .bool f.ac]

def bpC (b : Bp) : Array Value := #[.int .i64 b.k, .bool b.f.ch, .bool b.f.pr, .int .i64 b.f.ro, .bool b.f.le, .bool b.f.pa, .bool b.f.ag, .bool b.f.ac,
  .int .i64 b.root.p, .int .i64 b.root.e, .int .u8 (b.root.a 0), .int .u8 (b.root.a 1), .int .u8 (b.root.a 2), .int .u8 (b.root.a 3), .int .u8 (b.root.a 4), .int .u8 (b.root.a 5), .int .i64 b.cost,
  .int .i64 b.snd.p, .int .i64 b.snd.e, .int .u8 (b.snd.a 0), .int .u8 (b.snd.a 1), .int .u8 (b.snd.a 2), .int .u8 (b.snd.a 3), .int .u8 (b.snd.a 4), .int .u8 (b.snd.a 5),
  .int .i64 b.pp, .int .i64 b.pn, .int .i64 b.age, .int .i64 b.mx, .int .i64 b.hel, .int .i64 b.wai]

theorem Try.flZero : (Try.prog.info? 35).map (·.zero) = some (some (.agg (flC zFl))) := by kernel_rfl

theorem Try.bpZero : (Try.prog.info? 41).map (·.zero) = some (some (.agg (bpC zBp))) := by kernel_rfl

def eqFl (a b : Fl) : Bool := (a.ch == b.ch) && ((a.pr == b.pr) && ((a.ro == b.ro) && ((a.le == b.le) && ((a.pa == b.pa) && ((a.ag == b.ag) && ((a.ac == b.ac)))))))

def eqBp (a b : Bp) : Bool := (a.k == b.k) && (eqFl a.f b.f && (eqB a.root b.root && ((a.cost == b.cost) && (eqB a.snd b.snd && (eqP ⟨a.pp, a.pn⟩ ⟨b.pp, b.pn⟩ && ((a.age == b.age) && ((a.mx == b.mx) && ((a.hel == b.hel) && (a.wai == b.wai)))))))))

theorem run_eql_fl (d : Nat) (a b : Fl) (w : World) : (Op.equalIn (d + 3) 35 (.agg (flC a)) (.agg (flC b))).run Try.prog w = .ok (eqFl a b) w := by
  have hs : Try.prog.stoodInHeld 35 = false := by kernel_rfl
  have hu : Try.prog.underlying 35 = some (.struct (Try.prog.fieldsOf 35)) := by kernel_rfl
  have hf : (Try.prog.fieldsOf 35).toList.map (fun f => (f.name == "_", f.type, f.offset)) = [(false, 4, 0), (false, 4, 1), (false, 3, 2), (false, 4, 3), (false, 4, 4), (false, 4, 5), (false, 4, 6)] := by kernel_rfl
  rw [run_equalIn_agg w (d + 2) 35 _ _ hu hs]
  obtain ⟨f0, l0, h0, g0, hf⟩ := List.map_eq_cons_iff.1 hf
  obtain ⟨f1, l1, rfl, g1, hf⟩ := List.map_eq_cons_iff.1 hf
  obtain ⟨f2, l2, rfl, g2, hf⟩ := List.map_eq_cons_iff.1 hf
  obtain ⟨f3, l3, rfl, g3, hf⟩ := List.map_eq_cons_iff.1 hf
  obtain ⟨f4, l4, rfl, g4, hf⟩ := List.map_eq_cons_iff.1 hf
  obtain ⟨f5, l5, rfl, g5, hf⟩ := List.map_eq_cons_iff.1 hf
  obtain ⟨f6, l6, rfl, g6, hf⟩ := List.map_eq_cons_iff.1 hf
  obtain rfl := List.map_eq_nil_iff.1 hf
  rw [h0]
  have e0 := run_equalIn_bool (P := Try.prog) w (d + 1) 4 (a.ch) (b.ch) Try.underlying4
  have e1 := run_equalIn_bool (P := Try.prog) w (d + 1) 4 (a.pr) (b.pr) Try.underlying4
  have e2 := run_equalIn_int (P := Try.prog) w (d + 1) 3 .i64 .i64 (a.ro) (b.ro) Try.underlying3
  have e3 := run_equalIn_bool (P := Try.prog) w (d + 1) 4 (a.le) (b.le) Try.underlying4
  have e4 := run_equalIn_bool (P := Try.prog) w (d + 1) 4 (a.pa) (b.pa) Try.underlying4
  have e5 := run_equalIn_bool (P := Try.prog) w (d + 1) 4 (a.ag) (b.ag) Try.underlying4
  have e6 := run_equalIn_bool (P := Try.prog) w (d + 1) 4 (a.ac) (b.ac) Try.underlying4
  have h := run_eqFields_cons w (d + 2) (flC a) (flC b) f0 _ _ _ _ _ _ _ g0 (run_part_one w _ _ 0 _ (by kernel_rfl) rfl) (run_part_one w _ _ 0 _ (by kernel_rfl) rfl) e0
    (run_eqFields_cons w (d + 2) (flC a) (flC b) f1 _ _ _ _ _ _ _ g1 (run_part_one w _ _ 1 _ (by kernel_rfl) rfl) (run_part_one w _ _ 1 _ (by kernel_rfl) rfl) e1
    (run_eqFields_cons w (d + 2) (flC a) (flC b) f2 _ _ _ _ _ _ _ g2 (run_part_one w _ _ 2 _ (by kernel_rfl) rfl) (run_part_one w _ _ 2 _ (by kernel_rfl) rfl) e2
    (run_eqFields_cons w (d + 2) (flC a) (flC b) f3 _ _ _ _ _ _ _ g3 (run_part_one w _ _ 3 _ (by kernel_rfl) rfl) (run_part_one w _ _ 3 _ (by kernel_rfl) rfl) e3
    (run_eqFields_cons w (d + 2) (flC a) (flC b) f4 _ _ _ _ _ _ _ g4 (run_part_one w _ _ 4 _ (by kernel_rfl) rfl) (run_part_one w _ _ 4 _ (by kernel_rfl) rfl) e4
    (run_eqFields_cons w (d + 2) (flC a) (flC b) f5 _ _ _ _ _ _ _ g5 (run_part_one w _ _ 5 _ (by kernel_rfl) rfl) (run_part_one w _ _ 5 _ (by kernel_rfl) rfl) e5
    (run_eqFields_cons w (d + 2) (flC a) (flC b) f6 _ _ _ _ _ _ _ g6 (run_part_one w _ _ 6 _ (by kernel_rfl) rfl) (run_part_one w _ _ 6 _ (by kernel_rfl) rfl) e6
    (run_eqFields_nil w (d + 2) _ _)))))))
  rw [Bool.and_true] at h
  exact h

theorem run_eql_bp (d : Nat) (a b : Bp) (w : World) : (Op.equalIn (d + 4) 41 (.agg (bpC a)) (.agg (bpC b))).run Try.prog w = .ok (eqBp a b) w := by
  have hs : Try.prog.stoodInHeld 41 = false := by kernel_rfl
  have hu : Try.prog.underlying 41 = some (.struct (Try.prog.fieldsOf 41)) := by kernel_rfl
  have hf : (Try.prog.fieldsOf 41).toList.map (fun f => (f.name == "_", f.type, f.offset)) = [(false, 3, 0), (false, 35, 1), (false, 37, 8), (false, 3, 16), (false, 37, 17), (false, 39, 25), (false, 3, 27), (false, 3, 28), (false, 3, 29), (false, 3, 30)] := by kernel_rfl
  rw [run_equalIn_agg w (d + 3) 41 _ _ hu hs]
  obtain ⟨f0, l0, h0, g0, hf⟩ := List.map_eq_cons_iff.1 hf
  obtain ⟨f1, l1, rfl, g1, hf⟩ := List.map_eq_cons_iff.1 hf
  obtain ⟨f2, l2, rfl, g2, hf⟩ := List.map_eq_cons_iff.1 hf
  obtain ⟨f3, l3, rfl, g3, hf⟩ := List.map_eq_cons_iff.1 hf
  obtain ⟨f4, l4, rfl, g4, hf⟩ := List.map_eq_cons_iff.1 hf
  obtain ⟨f5, l5, rfl, g5, hf⟩ := List.map_eq_cons_iff.1 hf
  obtain ⟨f6, l6, rfl, g6, hf⟩ := List.map_eq_cons_iff.1 hf
  obtain ⟨f7, l7, rfl, g7, hf⟩ := List.map_eq_cons_iff.1 hf
  obtain ⟨f8, l8, rfl, g8, hf⟩ := List.map_eq_cons_iff.1 hf
  obtain ⟨f9, l9, rfl, g9, hf⟩ := List.map_eq_cons_iff.1 hf
  obtain rfl := List.map_eq_nil_iff.1 hf
  rw [h0]
  have e0 := run_equalIn_int (P := Try.prog) w (d + 2) 3 .i64 .i64 (a.k) (b.k) Try.underlying3
  have e1 := run_eql_fl (d + 0) a.f b.f w
  have e2 := run_eql_br (d + 0) a.root b.root w
  have e3 := run_equalIn_int (P := Try.prog) w (d + 2) 3 .i64 .i64 (a.cost) (b.cost) Try.underlying3
  have e4 := run_eql_br (d + 0) a.snd b.snd w
  have e5 := run_eql_pt (d + 0) ⟨a.pp, a.pn⟩ ⟨b.pp, b.pn⟩ w
  have e6 := run_equalIn_int (P := Try.prog) w (d + 2) 3 .i64 .i64 (a.age) (b.age) Try.underlying3
  have e7 := run_equalIn_int (P := Try.prog) w (d + 2) 3 .i64 .i64 (a.mx) (b.mx) Try.underlying3
  have e8 := run_equalIn_int (P := Try.prog) w (d + 2) 3 .i64 .i64 (a.hel) (b.hel) Try.underlying3
  have e9 := run_equalIn_int (P := Try.prog) w (d + 2) 3 .i64 .i64 (a.wai) (b.wai) Try.underlying3
  have h := run_eqFields_cons w (d + 3) (bpC a) (bpC b) f0 _ _ _ _ _ _ _ g0 (run_part_one w _ _ 0 _ (by kernel_rfl) rfl) (run_part_one w _ _ 0 _ (by kernel_rfl) rfl) e0
    (run_eqFields_cons w (d + 3) (bpC a) (bpC b) f1 _ _ _ _ _ _ _ g1 (run_part_agg w _ _ 1 7 (flC a.f) (by kernel_rfl) (by kernel_rfl) rfl) (run_part_agg w _ _ 1 7 (flC b.f) (by kernel_rfl) (by kernel_rfl) rfl) e1
    (run_eqFields_cons w (d + 3) (bpC a) (bpC b) f2 _ _ _ _ _ _ _ g2 (run_part_agg w _ _ 8 8 (brC a.root) (by kernel_rfl) (by kernel_rfl) rfl) (run_part_agg w _ _ 8 8 (brC b.root) (by kernel_rfl) (by kernel_rfl) rfl) e2
    (run_eqFields_cons w (d + 3) (bpC a) (bpC b) f3 _ _ _ _ _ _ _ g3 (run_part_one w _ _ 16 _ (by kernel_rfl) rfl) (run_part_one w _ _ 16 _ (by kernel_rfl) rfl) e3
    (run_eqFields_cons w (d + 3) (bpC a) (bpC b) f4 _ _ _ _ _ _ _ g4 (run_part_agg w _ _ 17 8 (brC a.snd) (by kernel_rfl) (by kernel_rfl) rfl) (run_part_agg w _ _ 17 8 (brC b.snd) (by kernel_rfl) (by kernel_rfl) rfl) e4
    (run_eqFields_cons w (d + 3) (bpC a) (bpC b) f5 _ _ _ _ _ _ _ g5 (run_part_agg w _ _ 25 2 (pC ⟨a.pp, a.pn⟩) (by kernel_rfl) (by kernel_rfl) rfl) (run_part_agg w _ _ 25 2 (pC ⟨b.pp, b.pn⟩) (by kernel_rfl) (by kernel_rfl) rfl) e5
    (run_eqFields_cons w (d + 3) (bpC a) (bpC b) f6 _ _ _ _ _ _ _ g6 (run_part_one w _ _ 27 _ (by kernel_rfl) rfl) (run_part_one w _ _ 27 _ (by kernel_rfl) rfl) e6
    (run_eqFields_cons w (d + 3) (bpC a) (bpC b) f7 _ _ _ _ _ _ _ g7 (run_part_one w _ _ 28 _ (by kernel_rfl) rfl) (run_part_one w _ _ 28 _ (by kernel_rfl) rfl) e7
    (run_eqFields_cons w (d + 3) (bpC a) (bpC b) f8 _ _ _ _ _ _ _ g8 (run_part_one w _ _ 29 _ (by kernel_rfl) rfl) (run_part_one w _ _ 29 _ (by kernel_rfl) rfl) e8
    (run_eqFields_cons w (d + 3) (bpC a) (bpC b) f9 _ _ _ _ _ _ _ g9 (run_part_one w _ _ 30 _ (by kernel_rfl) rfl) (run_part_one w _ _ 30 _ (by kernel_rfl) rfl) e9
    (run_eqFields_nil w (d + 3) _ _))))))))))
  rw [Bool.and_true] at h
  exact h

theorem eqFl_iff (a b : Fl) : eqFl a b = true ↔ a = b := by
  cases a; cases b
  simp [eqFl]

theorem eqB_self (a : Br) : eqB a a = true := by simp [eqB, eqN]

theorem eqFl_self (a : Fl) : eqFl a a = true := by simp [eqFl]

theorem eqBp_self (a : Bp) : eqBp a a = true := by simp [eqBp, eqB_self, eqFl_self, eqP]

/-- Two ways to say which flags a Config has. -/
theorem cfg_ways (f : Fl) : eqFl ⟨false, f.pr, f.ro, f.le, f.pa, f.ag, false⟩ zFl = eqFl f (cfF f) := by
  cases f
  simp [eqFl, cfF, zFl]

theorem not_ways (b : Bp) (h : b.k = 2) : eqBp ⟨0, b.f, b.root, b.cost, b.snd, b.pp, b.pn, b.age, b.mx, b.hel, b.wai⟩ zBp = eqBp b nBp := by
  simp [eqBp, zBp, nBp, h]

/-- What may be. -/
def okBp (b : Bp) : Bool := if b.k = 1 then eqFl b.f (cfF b.f) && okBd b else if b.k = 2 then eqBp b nBp else if b.k = 3 then okF b.f && okBd b else false

end Go.Proofs.Ytnlphldkdglofaa
