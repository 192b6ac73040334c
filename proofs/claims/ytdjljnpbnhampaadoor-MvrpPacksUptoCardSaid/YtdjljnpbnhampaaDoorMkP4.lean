/- Texts one behind the other. Names and vectors as values. Names and vectors held against each other by ==. Flags and BPDUs as values. wire.Fits; bpdu.Flags, ofConfig. Instances and messages of many trees as values. A great value is put into a block of its own: what follows sees the block alone. Comparisons of empty lists. slices.Equal of lists of instances that are the same. bpdu.Flags, ofConfig; the closures of Of and FlagsOf. bpdu.Of at every byte; the reference's FlagsOf. prio.isPrio, Right, Port; the reference's within, BridgeRight, PortRight. prio.Read at every state of a reader. Are attributes the same, says the reference? -/
import Derived.Test.YtdjljnpbnhampaaDoorMkP1
import Derived.Test.YtdjljnpbnhampaaDoorMkP3
import Derived.Test.YtdjljnpbnhampaaDoorBlk
import Derived.Test.YtdjljnpbnhampaaDoorBy
import Derived.Test.YtdjljnpbnhampaaDoorFits
import Derived.Test.YtdjljnpbnhampaaDoorCells
import Derived.Great.Ranges
import Derived.Deep.RegionHeld3
import Derived.Test.YtdjljnpbnhampaaDoorStOp
import Derived.Test.YtdjljnpbnhampaaDoorRdT
namespace Go.Proofs.YtdjljnpbnhampaaDoor
open Go.RowKit
set_option linter.unusedVariables false

/-- The cells of a bridge's name, of a port's, of a vector. -/
def brC (b : Br) : Array Value := #[.int .i64 b.p, .int .i64 b.e, .int .u8 (b.a 0), .int .u8 (b.a 1), .int .u8 (b.a 2), .int .u8 (b.a 3), .int .u8 (b.a 4), .int .u8 (b.a 5)]

def ptC (p n : Int) : Array Value := #[.int .i64 p, .int .i64 n]

def veC (v : Ve) : Array Value := #[.int .i64 v.root.p, .int .i64 v.root.e, .int .u8 (v.root.a 0), .int .u8 (v.root.a 1), .int .u8 (v.root.a 2), .int .u8 (v.root.a 3), .int .u8 (v.root.a 4), .int .u8 (v.root.a 5),
  .int .i64 v.cost, .int .i64 v.sender.p, .int .i64 v.sender.e, .int .u8 (v.sender.a 0), .int .u8 (v.sender.a 1), .int .u8 (v.sender.a 2), .int .u8 (v.sender.a 3), .int .u8 (v.sender.a 4), .int .u8 (v.sender.a 5),
  .int .i64 v.pp, .int .i64 v.pn, .int .i64 v.ap, .int .i64 v.an]

def zBr : Br := ⟨0, 0, z6⟩

def zVe : Ve := ⟨zBr, 0, zBr, 0, 0, 0, 0⟩

/-- The bytes of a vector's addresses are bytes. -/
def byV (v : Ve) : Prop := (∀ i, v.root.a i < 256) ∧ ∀ i, v.sender.a i < 256

theorem br_cells {w : World} {B : Nat} {T : TypeId} {b : Br} (h : Blk w B T (brC b)) : w.cell? ⟨B, 0, none⟩ = some (.int .i64 b.p) ∧ w.cell? ⟨B, 1, none⟩ = some (.int .i64 b.e) ∧ w.cell? ⟨B, 2, none⟩ = some (.int .u8 (b.a 0)) ∧ w.cell? ⟨B, 3, none⟩ = some (.int .u8 (b.a 1)) ∧ w.cell? ⟨B, 4, none⟩ = some (.int .u8 (b.a 2)) ∧ w.cell? ⟨B, 5, none⟩ = some (.int .u8 (b.a 3)) ∧ w.cell? ⟨B, 6, none⟩ = some (.int .u8 (b.a 4)) ∧ w.cell? ⟨B, 7, none⟩ = some (.int .u8 (b.a 5)) :=
  ⟨h.c 0, h.c 1, h.c 2, h.c 3, h.c 4, h.c 5, h.c 6, h.c 7⟩

theorem Tryd.brZero : (Tryd.prog.info? 27).map (·.zero) = some (some (.agg (brC zBr))) := by kernel_rfl

/-- Two variables made. -/
theorem two_blks (w : World) (T U : TypeId) (C D : Array Value) : Blk ((w.alloc (.cells C T)).alloc (.cells D U)) w.heap.size T C ∧ Blk ((w.alloc (.cells C T)).alloc (.cells D U)) (w.heap.size + 1) U D ∧ Below w.heap.size w ((w.alloc (.cells C T)).alloc (.cells D U)) := by
  have h := Blk.new (w.alloc (.cells C T)) U D
  rw [show (w.alloc (.cells C T)).heap.size = w.heap.size + 1 by simp] at h
  exact ⟨(Blk.new w T C).alloc _, h, ((Below.refl _ _).alloc (Nat.le_refl _) _).alloc (by simp) _⟩

end Go.Proofs.YtdjljnpbnhampaaDoor

namespace Go.Proofs.YtdjljnpbnhampaaDoor
open Go.RowKit
set_option linter.unusedVariables false
set_option maxRecDepth 100000

theorem Tryd.u8oneV : Tryd.prog.cellsOf 5 = 1 := by kernel_rfl

theorem Tryd.u8infoV : ∃ i, Tryd.prog.info? 5 = some i := Option.isSome_iff_exists.1 (by kernel_rfl)

theorem run_eql_ad (d : Nat) (x y : Nat → Nat) (w : World) : (Op.equalIn (d + 2) 25 (.agg (c6 x)) (.agg (c6 y))).run Tryd.prog w = .ok (eqN 6 x y) w := by
  obtain ⟨i, hi⟩ := Tryd.u8infoV
  refine run_eql_ints w d 6 25 5 .u8 .u8 i Tryd.underlying25 Tryd.underlying5 hi Tryd.u8oneV (fun i => (x i : Int)) (fun i => (y i : Int)) _ _ (fun j hj => ?_)
  have : j = 0 ∨ j = 1 ∨ j = 2 ∨ j = 3 ∨ j = 4 ∨ j = 5 := by omega
  rcases this with rfl | rfl | rfl | rfl | rfl | rfl <;> exact ⟨rfl, rfl⟩

/-- Equal, field by field. -/
def eqB (a b : Br) : Bool := (a.p == b.p) && ((a.e == b.e) && eqN 6 a.a b.a)

structure Pt where
  p : Int
  n : Int

def pC (p : Pt) : Array Value := ptC p.p p.n

def eqP (a b : Pt) : Bool := (a.p == b.p) && (a.n == b.n)

def eqV (a b : Ve) : Bool := eqB a.root b.root && ((a.cost == b.cost) && (eqB a.sender b.sender && (eqP ⟨a.pp, a.pn⟩ ⟨b.pp, b.pn⟩ && eqP ⟨a.ap, a.an⟩ ⟨b.ap, b.an⟩)))

theorem run_eql_br (d : Nat) (a b : Br) (w : World) : (Op.equalIn (d + 3) 27 (.agg (brC a)) (.agg (brC b))).run Tryd.prog w = .ok (eqB a b) w := by
  have hs : Tryd.prog.stoodInHeld 27 = false := by kernel_rfl
  have hu : Tryd.prog.underlying 27 = some (.struct (Tryd.prog.fieldsOf 27)) := by kernel_rfl
  have hf : (Tryd.prog.fieldsOf 27).toList.map (fun f => (f.name == "_", f.type, f.offset)) = [(false, 3, 0), (false, 3, 1), (false, 25, 2)] := by kernel_rfl
  rw [run_equalIn_agg w (d + 2) 27 _ _ hu hs]
  obtain ⟨f0, l0, h0, g0, hf⟩ := List.map_eq_cons_iff.1 hf
  obtain ⟨f1, l1, rfl, g1, hf⟩ := List.map_eq_cons_iff.1 hf
  obtain ⟨f2, l2, rfl, g2, hf⟩ := List.map_eq_cons_iff.1 hf
  obtain rfl := List.map_eq_nil_iff.1 hf
  rw [h0]
  have e0 := run_equalIn_int (P := Tryd.prog) w (d + 1) 3 .i64 .i64 (a.p) (b.p) Tryd.underlying3
  have e1 := run_equalIn_int (P := Tryd.prog) w (d + 1) 3 .i64 .i64 (a.e) (b.e) Tryd.underlying3
  have e2 := run_eql_ad (d + 0) a.a b.a w
  have h := run_eqFields_cons w (d + 2) (brC a) (brC b) f0 _ _ _ _ _ _ _ g0 (run_part_one w _ _ 0 _ (by kernel_rfl) rfl) (run_part_one w _ _ 0 _ (by kernel_rfl) rfl) e0
    (run_eqFields_cons w (d + 2) (brC a) (brC b) f1 _ _ _ _ _ _ _ g1 (run_part_one w _ _ 1 _ (by kernel_rfl) rfl) (run_part_one w _ _ 1 _ (by kernel_rfl) rfl) e1
    (run_eqFields_cons w (d + 2) (brC a) (brC b) f2 _ _ _ _ _ _ _ g2 (run_part_agg w _ _ 2 6 (c6 a.a) (by kernel_rfl) (by kernel_rfl) rfl) (run_part_agg w _ _ 2 6 (c6 b.a) (by kernel_rfl) (by kernel_rfl) rfl) e2
    (run_eqFields_nil w (d + 2) _ _)))
  rw [Bool.and_true] at h
  exact h

theorem run_eql_pt (d : Nat) (a b : Pt) (w : World) : (Op.equalIn (d + 3) 29 (.agg (pC a)) (.agg (pC b))).run Tryd.prog w = .ok (eqP a b) w := by
  have hs : Tryd.prog.stoodInHeld 29 = false := by kernel_rfl
  have hu : Tryd.prog.underlying 29 = some (.struct (Tryd.prog.fieldsOf 29)) := by kernel_rfl
  have hf : (Tryd.prog.fieldsOf 29).toList.map (fun f => (f.name == "_", f.type, f.offset)) = [(false, 3, 0), (false, 3, 1)] := by kernel_rfl
  rw [run_equalIn_agg w (d + 2) 29 _ _ hu hs]
  obtain ⟨f0, l0, h0, g0, hf⟩ := List.map_eq_cons_iff.1 hf
  obtain ⟨f1, l1, rfl, g1, hf⟩ := List.map_eq_cons_iff.1 hf
  obtain rfl := List.map_eq_nil_iff.1 hf
  rw [h0]
  have e0 := run_equalIn_int (P := Tryd.prog) w (d + 1) 3 .i64 .i64 (a.p) (b.p) Tryd.underlying3
  have e1 := run_equalIn_int (P := Tryd.prog) w (d + 1) 3 .i64 .i64 (a.n) (b.n) Tryd.underlying3
  have h := run_eqFields_cons w (d + 2) (pC a) (pC b) f0 _ _ _ _ _ _ _ g0 (run_part_one w _ _ 0 _ (by kernel_rfl) rfl) (run_part_one w _ _ 0 _ (by kernel_rfl) rfl) e0
    (run_eqFields_cons w (d + 2) (pC a) (pC b) f1 _ _ _ _ _ _ _ g1 (run_part_one w _ _ 1 _ (by kernel_rfl) rfl) (run_part_one w _ _ 1 _ (by kernel_rfl) rfl) e1
    (run_eqFields_nil w (d + 2) _ _))
  rw [Bool.and_true] at h
  exact h



theorem eqN6 (x y : Nat → Nat) : eqN 6 x y = decide (sixI x = sixI y) := by
  rw [Bool.eq_iff_iff]
  simp [eqN, sixI, List.range_succ]

theorem eqB_iff (a b : Br) : eqB a b = decide (numsB a = numsB b) := by
  rw [Bool.eq_iff_iff]
  simp [eqB, eqN6, numsB]

theorem eqV_iff (a b : Ve) : eqV a b = decide (lineV a = lineV b) := by
  rw [Bool.eq_iff_iff, decide_eq_true_iff]
  simp only [eqV, eqB_iff, eqP, Bool.and_eq_true, decide_eq_true_iff, beq_iff_eq]
  constructor
  · rintro ⟨h1, h2, h3, ⟨h4, h5⟩, h6, h7⟩
    unfold lineV
    rw [h1, h2, h3, h4, h5, h6, h7]
  · intro h
    unfold lineV at h
    obtain ⟨h1, h⟩ := List.append_inj h rfl
    obtain ⟨h2, h⟩ := List.append_inj h rfl
    obtain ⟨h3, h⟩ := List.append_inj h rfl
    simp only [List.cons.injEq, and_true] at h h2
    exact ⟨h1, h2, h3, ⟨h.1, h.2.1⟩, h.2.2⟩

theorem eqB_refl (a : Br) : eqB a a = true := by rw [eqB_iff]; simp

theorem eqV_refl (a : Ve) : eqV a a = true := by rw [eqV_iff]; simp

/-- The cells of names with the same numbers. -/
theorem brC_nums {a b : Br} (h : numsB a = numsB b) : brC a = brC b := by
  simp only [numsB, sixI, List.cons_append, List.nil_append, List.cons.injEq, Int.natCast_inj, and_true] at h
  obtain ⟨h0, h1, h2, h3, h4, h5, h6, h7⟩ := h
  simp only [brC, h0, h1, h2, h3, h4, h5, h6, h7]

end Go.Proofs.YtdjljnpbnhampaaDoor

namespace Go.Proofs.YtdjljnpbnhampaaDoor
open Go.RowKit
set_option linter.unusedVariables false
set_option maxRecDepth 100000

def flC (f : Fl) : Array Value := #[.bool f.ch, .bool f.pr, .int .i64 f.ro, .bool f.le, .bool f.pa, .bool f.ag, .bool f.ac]

def bpC (b : Bp) : Array Value := #[.int .i64 b.k, .bool b.f.ch, .bool b.f.pr, .int .i64 b.f.ro, .bool b.f.le, .bool b.f.pa, .bool b.f.ag, .bool b.f.ac,
  .int .i64 b.root.p, .int .i64 b.root.e, .int .u8 (b.root.a 0), .int .u8 (b.root.a 1), .int .u8 (b.root.a 2), .int .u8 (b.root.a 3), .int .u8 (b.root.a 4), .int .u8 (b.root.a 5), .int .i64 b.cost,
  .int .i64 b.snd.p, .int .i64 b.snd.e, .int .u8 (b.snd.a 0), .int .u8 (b.snd.a 1), .int .u8 (b.snd.a 2), .int .u8 (b.snd.a 3), .int .u8 (b.snd.a 4), .int .u8 (b.snd.a 5),
  .int .i64 b.pp, .int .i64 b.pn, .int .i64 b.age, .int .i64 b.mx, .int .i64 b.hel, .int .i64 b.wai]

theorem Tryd.flZero : (Tryd.prog.info? 23).map (·.zero) = some (some (.agg (flC zFl))) := by kernel_rfl

theorem Tryd.bpZero : (Tryd.prog.info? 31).map (·.zero) = some (some (.agg (bpC zBp))) := by kernel_rfl

def eqFl (a b : Fl) : Bool := (a.ch == b.ch) && ((a.pr == b.pr) && ((a.ro == b.ro) && ((a.le == b.le) && ((a.pa == b.pa) && ((a.ag == b.ag) && ((a.ac == b.ac)))))))

def eqBp (a b : Bp) : Bool := (a.k == b.k) && (eqFl a.f b.f && (eqB a.root b.root && ((a.cost == b.cost) && (eqB a.snd b.snd && (eqP ⟨a.pp, a.pn⟩ ⟨b.pp, b.pn⟩ && ((a.age == b.age) && ((a.mx == b.mx) && ((a.hel == b.hel) && (a.wai == b.wai)))))))))

theorem run_eql_fl (d : Nat) (a b : Fl) (w : World) : (Op.equalIn (d + 3) 23 (.agg (flC a)) (.agg (flC b))).run Tryd.prog w = .ok (eqFl a b) w := by
  have hs : Tryd.prog.stoodInHeld 23 = false := by kernel_rfl
  have hu : Tryd.prog.underlying 23 = some (.struct (Tryd.prog.fieldsOf 23)) := by kernel_rfl
  have hf : (Tryd.prog.fieldsOf 23).toList.map (fun f => (f.name == "_", f.type, f.offset)) = [(false, 4, 0), (false, 4, 1), (false, 3, 2), (false, 4, 3), (false, 4, 4), (false, 4, 5), (false, 4, 6)] := by kernel_rfl
  rw [run_equalIn_agg w (d + 2) 23 _ _ hu hs]
  obtain ⟨f0, l0, h0, g0, hf⟩ := List.map_eq_cons_iff.1 hf
  obtain ⟨f1, l1, rfl, g1, hf⟩ := List.map_eq_cons_iff.1 hf
  obtain ⟨f2, l2, rfl, g2, hf⟩ := List.map_eq_cons_iff.1 hf
  obtain ⟨f3, l3, rfl, g3, hf⟩ := List.map_eq_cons_iff.1 hf
  obtain ⟨f4, l4, rfl, g4, hf⟩ := List.map_eq_cons_iff.1 hf
  obtain ⟨f5, l5, rfl, g5, hf⟩ := List.map_eq_cons_iff.1 hf
  obtain ⟨f6, l6, rfl, g6, hf⟩ := List.map_eq_cons_iff.1 hf
  obtain rfl := List.map_eq_nil_iff.1 hf
  rw [h0]
  have e0 := run_equalIn_bool (P := Tryd.prog) w (d + 1) 4 (a.ch) (b.ch) Tryd.underlying4
  have e1 := run_equalIn_bool (P := Tryd.prog) w (d + 1) 4 (a.pr) (b.pr) Tryd.underlying4
  have e2 := run_equalIn_int (P := Tryd.prog) w (d + 1) 3 .i64 .i64 (a.ro) (b.ro) Tryd.underlying3
  have e3 := run_equalIn_bool (P := Tryd.prog) w (d + 1) 4 (a.le) (b.le) Tryd.underlying4
  have e4 := run_equalIn_bool (P := Tryd.prog) w (d + 1) 4 (a.pa) (b.pa) Tryd.underlying4
  have e5 := run_equalIn_bool (P := Tryd.prog) w (d + 1) 4 (a.ag) (b.ag) Tryd.underlying4
  have e6 := run_equalIn_bool (P := Tryd.prog) w (d + 1) 4 (a.ac) (b.ac) Tryd.underlying4
  have h := run_eqFields_cons w (d + 2) (flC a) (flC b) f0 _ _ _ _ _ _ _ g0 (run_part_one w _ _ 0 _ (by kernel_rfl) rfl) (run_part_one w _ _ 0 _ (by kernel_rfl) rfl) e0
    (run_eqFields_cons w (d + 2) (flC a) (flC b) f1 _ _ _ _ _ _ _ g1 (run_part_one w _ _ 1 _ (by kernel_rfl) rfl) (run_part_one w _ _ 1 _ (by kernel_rfl) rfl) e1
    (run_eqFields_cons w (d + 2) (flC a) (flC b) f2 _ _ _ _ _ _ _ g2 (run_part_one w _ _ 2 _ (by kernel_rfl) rfl) (run_part_one w _ _ 2 _ (by kernel_rfl) rfl) e2
    (run_eqFields_cons w (d + 2) (flC a) (flC b) f3 _ _ _ _ _ _ _ g3 (run_part_one w _ _ 3 _ (by kernel_rfl) rfl) (run_part_one w _ _ 3 _ (by kernel_rfl) rfl) e3
    (run_eqFields_cons w (d + 2) (flC a) (flC b) f4 _ _ _ _ _ _ _ g4 (run_part_one w _ _ 4 _ (by kernel_rfl) rfl) (run_part_one w _ _ 4 _ (by kernel_rfl) rfl) e4
    (run_eqFields_cons w (d + 2) (flC a) (flC b) f5 _ _ _ _ _ _ _ g5 (run_part_one w _ _ 5 _ (by kernel_rfl) rfl) (run_part_one w _ _ 5 _ (by kernel_rfl) rfl) e5
    (run_eqFields_cons w (d + 2) (flC a) (flC b) f6 _ _ _ _ _ _ _ g6 (run_part_one w _ _ 6 _ (by kernel_rfl) rfl) (run_part_one w _ _ 6 _ (by kernel_rfl) rfl) e6
    (run_eqFields_nil w (d + 2) _ _)))))))
  rw [Bool.and_true] at h
  exact h

theorem run_eql_bp (d : Nat) (a b : Bp) (w : World) : (Op.equalIn (d + 4) 31 (.agg (bpC a)) (.agg (bpC b))).run Tryd.prog w = .ok (eqBp a b) w := by
  have hs : Tryd.prog.stoodInHeld 31 = false := by kernel_rfl
  have hu : Tryd.prog.underlying 31 = some (.struct (Tryd.prog.fieldsOf 31)) := by kernel_rfl
  have hf : (Tryd.prog.fieldsOf 31).toList.map (fun f => (f.name == "_", f.type, f.offset)) = [(false, 3, 0), (false, 23, 1), (false, 27, 8), (false, 3, 16), (false, 27, 17), (false, 29, 25), (false, 3, 27), (false, 3, 28), (false, 3, 29), (false, 3, 30)] := by kernel_rfl
  rw [run_equalIn_agg w (d + 3) 31 _ _ hu hs]
  obtain ⟨f0, l0, h0, g0, hf⟩ := List.map_eq_cons_iff.1 hf
  obtain ⟨f1, l1, rfl, g1, hf⟩ := List.map_eq_cons_iff.1 hf
  obtain ⟨f2, l2, rfl, g2, hf⟩ := List.map_eq_cons_iff.1 hf
  obtain ⟨f3, l3, rfl, g3, hf⟩ := List.map_eq_cons_iff.1 hf
  obtain ⟨f4, l4, rfl, g4, hf⟩ := List.map_eq_cons_iff.1 hf
  obtain ⟨f5, l5, rfl, g5, hf⟩ := List.map_eq_cons_iff.1 hf
  obtain ⟨f6, l6, rfl, g6, hf⟩ := List.map_eq_cons_iff.1 hf
  obtain ⟨f7, l7, rfl, g7, hf⟩ := List.map_eq_cons_iff.1 hf
  obtain ⟨f8, l8, rfl, g8, hf⟩ := List.map_eq_cons_iff.1 hf
  obtain ⟨f9, l9, rfl, g9, hf⟩ := List.map_eq_cons_iff.1 hf
  obtain rfl := List.map_eq_nil_iff.1 hf
  rw [h0]
  have e0 := run_equalIn_int (P := Tryd.prog) w (d + 2) 3 .i64 .i64 (a.k) (b.k) Tryd.underlying3
  have e1 := run_eql_fl (d + 0) a.f b.f w
  have e2 := run_eql_br (d + 0) a.root b.root w
  have e3 := run_equalIn_int (P := Tryd.prog) w (d + 2) 3 .i64 .i64 (a.cost) (b.cost) Tryd.underlying3
  have e4 := run_eql_br (d + 0) a.snd b.snd w
  have e5 := run_eql_pt (d + 0) ⟨a.pp, a.pn⟩ ⟨b.pp, b.pn⟩ w
  have e6 := run_equalIn_int (P := Tryd.prog) w (d + 2) 3 .i64 .i64 (a.age) (b.age) Tryd.underlying3
  have e7 := run_equalIn_int (P := Tryd.prog) w (d + 2) 3 .i64 .i64 (a.mx) (b.mx) Tryd.underlying3
  have e8 := run_equalIn_int (P := Tryd.prog) w (d + 2) 3 .i64 .i64 (a.hel) (b.hel) Tryd.underlying3
  have e9 := run_equalIn_int (P := Tryd.prog) w (d + 2) 3 .i64 .i64 (a.wai) (b.wai) Tryd.underlying3
  have h := run_eqFields_cons w (d + 3) (bpC a) (bpC b) f0 _ _ _ _ _ _ _ g0 (run_part_one w _ _ 0 _ (by kernel_rfl) rfl) (run_part_one w _ _ 0 _ (by kernel_rfl) rfl) e0
    (run_eqFields_cons w (d + 3) (bpC a) (bpC b) f1 _ _ _ _ _ _ _ g1 (run_part_agg w _ _ 1 7 (flC a.f) (by kernel_rfl) (by kernel_rfl) rfl) (run_part_agg w _ _ 1 7 (flC b.f) (by kernel_rfl) (by kernel_rfl) rfl) e1
    (run_eqFields_cons w (d + 3) (bpC a) (bpC b) f2 _ _ _ _ _ _ _ g2 (run_part_agg w _ _ 8 8 (brC a.root) (by kernel_rfl) (by kernel_rfl) rfl) (run_part_agg w _ _ 8 8 (brC b.root) (by kernel_rfl) (by kernel_rfl) rfl) e2
    (run_eqFields_cons w (d + 3) (bpC a) (bpC b) f3 _ _ _ _ _ _ _ g3 (run_part_one w _ _ 16 _ (by kernel_rfl) rfl) (run_part_one w _ _ 16 _ (by kernel_rfl) rfl) e3
    (run_eqFields_cons w (d + 3) (bpC a) (bpC b) f4 _ _ _ _ _ _ _ g4 (run_part_agg w _ _ 17 8 (brC a.snd) (by kernel_rfl) (by kernel_rfl) rfl) (run_part_agg w _ _ 17 8 (brC b.snd) (by kernel_rfl) (by kernel_rfl) rfl) e4
    (run_eqFields_cons w (d + 3) (bpC a) (bpC b) f5 _ _ _ _ _ _ _ g5 (run_part_agg w _ _ 25 2 (pC ⟨a.pp, a.pn⟩) (by kernel_rfl) (by kernel_rfl) rfl) (run_part_agg w _ _ 25 2 (pC ⟨b.pp, b.pn⟩) (by kernel_rfl) (by kernel_rfl) rfl) e5
    (run_eqFields_cons w (d + 3) (bpC a) (bpC b) f6 _ _ _ _ _ _ _ g6 (run_part_one w _ _ 27 _ (by kernel_rfl) rfl) (run_part_one w _ _ 27 _ (by kernel_rfl) rfl) e6
    (run_eqFields_cons w (d + 3) (bpC a) (bpC b) f7 _ _ _ _ _ _ _ g7 (run_part_one w _ _ 28 _ (by kernel_rfl) rfl) (run_part_one w _ _ 28 _ (by kernel_rfl) rfl) e7
    (run_eqFields_cons w (d + 3) (bpC a) (bpC b) f8 _ _ _ _ _ _ _ g8 (run_part_one w _ _ 29 _ (by kernel_rfl) rfl) (run_part_one w _ _ 29 _ (by kernel_rfl) rfl) e8
    (run_eqFields_cons w (d + 3) (bpC a) (bpC b) f9 _ _ _ _ _ _ _ g9 (run_part_one w _ _ 30 _ (by kernel_rfl) rfl) (run_part_one w _ _ 30 _ (by kernel_rfl) rfl) e9
    (run_eqFields_nil w (d + 3) _ _))))))))))
  rw [Bool.and_true] at h
  exact h

theorem eqFl_iff (a b : Fl) : eqFl a b = true ↔ a = b := by
  cases a; cases b
  simp [eqFl]

theorem eqB_self (a : Br) : eqB a a = true := by simp [eqB, eqN]

theorem eqFl_self (a : Fl) : eqFl a a = true := by simp [eqFl]

theorem eqBp_self (a : Bp) : eqBp a a = true := by simp [eqBp, eqB_self, eqFl_self, eqP]

/-- Two ways to say which flags a Config has. -/
theorem cfg_ways (f : Fl) : eqFl ⟨false, f.pr, f.ro, f.le, f.pa, f.ag, false⟩ zFl = eqFl f (cfF f) := by
  cases f
  simp [eqFl, cfF, zFl]

theorem not_ways (b : Bp) (h : b.k = 2) : eqBp ⟨0, b.f, b.root, b.cost, b.snd, b.pp, b.pn, b.age, b.mx, b.hel, b.wai⟩ zBp = eqBp b nBp := by
  simp [eqBp, zBp, nBp, h]

/-- What may be. -/
def okBp (b : Bp) : Bool := if b.k = 1 then eqFl b.f (cfF b.f) && okBd b else if b.k = 2 then eqBp b nBp else if b.k = 3 then okF b.f && okBd b else false

end Go.Proofs.YtdjljnpbnhampaaDoor

namespace Go.Proofs.YtdjljnpbnhampaaDoor
open Go.RowKit
attribute [local go_sem ↓] Go.wp_at_zero Go.wp_at_succ
set_option linter.unusedSimpArgs false
set_option linter.unusedVariables false
set_option maxRecDepth 100000

/-- The bytes of its addresses are bytes; its numbers have 64 bits. -/
def byBp (b : Bp) : Prop := byB b.root ∧ byB b.snd

def rgBp (b : Bp) : Prop := i64R b.cost ∧ i64R b.age ∧ i64R b.mx ∧ i64R b.hel ∧ i64R b.wai



end Go.Proofs.YtdjljnpbnhampaaDoor

namespace Go.Proofs.YtdjljnpbnhampaaDoor
open Go.RowKit
set_option linter.unusedVariables false
set_option maxRecDepth 100000

def inC (x : Ins) : Array Value := #[.bool x.f.ch, .bool x.f.pr, .int .i64 x.f.ro, .bool x.f.le, .bool x.f.pa, .bool x.f.ag, .bool x.f.ac,
  .int .i64 x.root.p, .int .i64 x.root.e, .int .u8 (x.root.a 0), .int .u8 (x.root.a 1), .int .u8 (x.root.a 2), .int .u8 (x.root.a 3), .int .u8 (x.root.a 4), .int .u8 (x.root.a 5), .int .i64 x.cost, .int .i64 x.br, .int .i64 x.pt, .int .i64 x.hop]

def msC (m : Ms) (v : Value) : Array Value := #[.int .i64 m.base.k, .bool m.base.f.ch, .bool m.base.f.pr, .int .i64 m.base.f.ro, .bool m.base.f.le, .bool m.base.f.pa, .bool m.base.f.ag, .bool m.base.f.ac, .int .i64 m.base.root.p, .int .i64 m.base.root.e, .int .u8 (m.base.root.a 0), .int .u8 (m.base.root.a 1), .int .u8 (m.base.root.a 2), .int .u8 (m.base.root.a 3), .int .u8 (m.base.root.a 4), .int .u8 (m.base.root.a 5), .int .i64 m.base.cost, .int .i64 m.base.snd.p, .int .i64 m.base.snd.e, .int .u8 (m.base.snd.a 0), .int .u8 (m.base.snd.a 1), .int .u8 (m.base.snd.a 2), .int .u8 (m.base.snd.a 3), .int .u8 (m.base.snd.a 4), .int .u8 (m.base.snd.a 5), .int .i64 m.base.pp, .int .i64 m.base.pn, .int .i64 m.base.age, .int .i64 m.base.mx, .int .i64 m.base.hel, .int .i64 m.base.wai,
  .string m.name, .int .i64 m.rev, .string m.dig, .int .i64 m.cost, .int .i64 m.br.p, .int .i64 m.br.e, .int .u8 (m.br.a 0), .int .u8 (m.br.a 1), .int .u8 (m.br.a 2), .int .u8 (m.br.a 3), .int .u8 (m.br.a 4), .int .u8 (m.br.a 5), .int .i64 m.hop, v]

theorem Tryd.inZero : (Tryd.prog.info? 111).map (·.zero) = some (some (.agg (inC zIns))) := by kernel_rfl

theorem Tryd.msZero : (Tryd.prog.info? 34).map (·.zero) = some (some (.agg (msC zMs (.slice none 0 0)))) := by kernel_rfl

def eqIn (a b : Ins) : Bool := eqFl a.f b.f && (eqB a.root b.root && ((a.cost == b.cost) && ((a.br == b.br) && ((a.pt == b.pt) && (a.hop == b.hop)))))

theorem run_eql_in (d : Nat) (a b : Ins) (w : World) : (Op.equalIn (d + 4) 111 (.agg (inC a)) (.agg (inC b))).run Tryd.prog w = .ok (eqIn a b) w := by
  have hs : Tryd.prog.stoodInHeld 111 = false := by kernel_rfl
  have hu : Tryd.prog.underlying 111 = some (.struct (Tryd.prog.fieldsOf 111)) := by kernel_rfl
  have hf : (Tryd.prog.fieldsOf 111).toList.map (fun f => (f.name == "_", f.type, f.offset)) = [(false, 23, 0), (false, 27, 7), (false, 3, 15), (false, 3, 16), (false, 3, 17), (false, 3, 18)] := by kernel_rfl
  rw [run_equalIn_agg w (d + 3) 111 _ _ hu hs]
  obtain ⟨f0, l0, h0, g0, hf⟩ := List.map_eq_cons_iff.1 hf
  obtain ⟨f1, l1, rfl, g1, hf⟩ := List.map_eq_cons_iff.1 hf
  obtain ⟨f2, l2, rfl, g2, hf⟩ := List.map_eq_cons_iff.1 hf
  obtain ⟨f3, l3, rfl, g3, hf⟩ := List.map_eq_cons_iff.1 hf
  obtain ⟨f4, l4, rfl, g4, hf⟩ := List.map_eq_cons_iff.1 hf
  obtain ⟨f5, l5, rfl, g5, hf⟩ := List.map_eq_cons_iff.1 hf
  obtain rfl := List.map_eq_nil_iff.1 hf
  rw [h0]
  have e0 := run_eql_fl (d + 0) a.f b.f w
  have e1 := run_eql_br (d + 0) a.root b.root w
  have e2 := run_equalIn_int (P := Tryd.prog) w (d + 2) 3 .i64 .i64 (a.cost) (b.cost) Tryd.underlying3
  have e3 := run_equalIn_int (P := Tryd.prog) w (d + 2) 3 .i64 .i64 (a.br) (b.br) Tryd.underlying3
  have e4 := run_equalIn_int (P := Tryd.prog) w (d + 2) 3 .i64 .i64 (a.pt) (b.pt) Tryd.underlying3
  have e5 := run_equalIn_int (P := Tryd.prog) w (d + 2) 3 .i64 .i64 (a.hop) (b.hop) Tryd.underlying3
  have h := run_eqFields_cons w (d + 3) (inC a) (inC b) f0 _ _ _ _ _ _ _ g0 (run_part_agg w _ _ 0 7 (flC a.f) (by kernel_rfl) (by kernel_rfl) rfl) (run_part_agg w _ _ 0 7 (flC b.f) (by kernel_rfl) (by kernel_rfl) rfl) e0
    (run_eqFields_cons w (d + 3) (inC a) (inC b) f1 _ _ _ _ _ _ _ g1 (run_part_agg w _ _ 7 8 (brC a.root) (by kernel_rfl) (by kernel_rfl) rfl) (run_part_agg w _ _ 7 8 (brC b.root) (by kernel_rfl) (by kernel_rfl) rfl) e1
    (run_eqFields_cons w (d + 3) (inC a) (inC b) f2 _ _ _ _ _ _ _ g2 (run_part_one w _ _ 15 _ (by kernel_rfl) rfl) (run_part_one w _ _ 15 _ (by kernel_rfl) rfl) e2
    (run_eqFields_cons w (d + 3) (inC a) (inC b) f3 _ _ _ _ _ _ _ g3 (run_part_one w _ _ 16 _ (by kernel_rfl) rfl) (run_part_one w _ _ 16 _ (by kernel_rfl) rfl) e3
    (run_eqFields_cons w (d + 3) (inC a) (inC b) f4 _ _ _ _ _ _ _ g4 (run_part_one w _ _ 17 _ (by kernel_rfl) rfl) (run_part_one w _ _ 17 _ (by kernel_rfl) rfl) e4
    (run_eqFields_cons w (d + 3) (inC a) (inC b) f5 _ _ _ _ _ _ _ g5 (run_part_one w _ _ 18 _ (by kernel_rfl) rfl) (run_part_one w _ _ 18 _ (by kernel_rfl) rfl) e5
    (run_eqFields_nil w (d + 3) _ _))))))
  rw [Bool.and_true] at h
  exact h

theorem eqIn_self (a : Ins) : eqIn a a = true := by simp [eqIn, eqFl_self, eqB_self]

def InAt (w : World) (b o : Nat) (l : List Ins) : Prop := ∀ j (hj : j < l.length), CellsAt w b (o + j * 19) (inC l[j])

def InIn (w : World) (a : Option Addr) (l : List Ins) : Prop := l = [] ∨ ∃ b o, a = some ⟨b, o, none⟩ ∧ b < w.heap.size ∧ InAt w b o l

theorem InAt.below {w w' : World} {b o D : Nat} {l : List Ins} (h : InAt w b o l) (hb : Below D w w') (hB : b < D) : InAt w' b o l := fun j hj => (h j hj).below hb hB

theorem InIn.below {w w' : World} {a : Option Addr} {l : List Ins} (h : InIn w a l) (hb : Below w.heap.size w w') : InIn w' a l := by
  rcases h with h | ⟨b, o, h1, h2, h3⟩
  · exact Or.inl h
  · exact Or.inr ⟨b, o, h1, Nat.lt_of_lt_of_le h2 hb.size, fun j hj => (h3 j hj).below hb h2⟩

theorem InIn.drew {w : World} {a : Option Addr} {l : List Ins} (h : InIn w a l) : InIn w.drew a l := h

theorem InIn.at {w : World} {a : Option Addr} {l : List Ins} (h : InIn w a l) {k : Nat} (hk : k < l.length) : ∃ b o, a = some ⟨b, o, none⟩ ∧ b < w.heap.size ∧ InAt w b o l := by
  rcases h with rfl | h
  · simp at hk
  · exact h

theorem okBp_three {b : Bp} (h : b.k = 3) : okBp b = okRp b := by
  unfold okBp okRp
  rw [if_neg (by omega), if_neg (by omega), if_pos h]

/-- Numbers of 64 bits. -/
def rgIn (x : Ins) : Prop := i64R x.cost ∧ i64R x.hop

def rgMs (m : Ms) : Prop := i64R m.rev ∧ i64R m.cost ∧ i64R m.hop

end Go.Proofs.YtdjljnpbnhampaaDoor

namespace Go.Proofs.YtdjljnpbnhampaaDoor
open Go.RowKit
set_option linter.unusedVariables false

theorem box_blk {P : Program} {ops : Array Oper} {rest : List Oper} {o : Oper} {a : Act} {w : World} {Q : Exit → Act → World → Prop} {x : Operand} (t : TypeId) (X : Array Value) (hg : o.guard = none) (ho : o.op = .box t x) (hx : a.eval x = .agg X)
    (h : ∀ w', Blk w' w.heap.size t X → Below w.heap.size w w' → wpList P ops Q rest (a.put o.dst (.pointer (some ⟨w.heap.size, 0, none⟩))) w') : wpList P ops Q (o :: rest) a w :=
  Go.Great.wpList_boxTo hg t x ho _ rfl _ rfl X (by rw [hx]; rfl) (h _ (Blk.new w t X) ((Below.refl _ _).alloc (Nat.le_refl _) _))

end Go.Proofs.YtdjljnpbnhampaaDoor

namespace Go.Proofs.YtdjljnpbnhampaaDoor
open Go.RowKit
attribute [local go_sem ↓] Go.wp_at_zero Go.wp_at_succ
set_option linter.unusedSimpArgs false
set_option linter.unusedVariables false
set_option maxRecDepth 100000

theorem eqNil_str (w : World) : Calls Tryd.prog 51 #[.slice none 0 0, .slice none 0 0] w fun e w' => e = .returned (.bool true) ∧ w = w' := by
  go_enter Tryd.func51, Tryd.ntmps51
  go_wp2_with fail
  refine wp_loop_once ?_
  go_wp2
  go_ret
  exact ⟨rfl, rfl⟩

theorem eqNil_caps (w : World) : Calls Tryd.prog 52 #[.slice none 0 0, .slice none 0 0] w fun e w' => e = .returned (.bool true) ∧ w = w' := by
  go_enter Tryd.func52, Tryd.ntmps52
  go_wp2_with fail
  refine wp_loop_once ?_
  go_wp2
  go_ret
  exact ⟨rfl, rfl⟩

theorem eqNil_man (w : World) : Calls Tryd.prog 53 #[.slice none 0 0, .slice none 0 0] w fun e w' => e = .returned (.bool true) ∧ w = w' := by
  go_enter Tryd.func53, Tryd.ntmps53
  go_wp2_with fail
  refine wp_loop_once ?_
  go_wp2
  go_ret
  exact ⟨rfl, rfl⟩

theorem eqNil_org (w : World) : Calls Tryd.prog 54 #[.slice none 0 0, .slice none 0 0] w fun e w' => e = .returned (.bool true) ∧ w = w' := by
  go_enter Tryd.func54, Tryd.ntmps54
  go_wp2_with fail
  refine wp_loop_once ?_
  go_wp2
  go_ret
  exact ⟨rfl, rfl⟩

theorem eqNil_tag (w : World) : Calls Tryd.prog 83 #[.slice none 0 0, .slice none 0 0] w fun e w' => e = .returned (.bool true) ∧ w = w' := by
  go_enter Tryd.func83, Tryd.ntmps83
  go_wp2_with fail
  refine wp_loop_once ?_
  go_wp2
  go_ret
  exact ⟨rfl, rfl⟩

theorem eqNil_attr (v : Value) (w : World) : Calls Tryd.prog 84 #[.slice none 0 0, .slice none 0 0, v] w fun e w' => e = .returned (.bool true) ∧ w = w' := by
  go_enter Tryd.func84, Tryd.ntmps84
  go_wp2_with fail
  refine wp_loop_once ?_
  go_wp2
  go_ret
  exact ⟨rfl, rfl⟩

theorem sameAttrs_nil (w : World) : Calls Tryd.prog 55 #[.slice none 0 0, .slice none 0 0] w fun e w' => e = .returned (.bool true) ∧ w = w' := by
  go_enter Tryd.func55, Tryd.ntmps55
  go_wp2_with fail
  refine (eqNil_attr _ _).mono ?_
  rintro e w1 ⟨rfl, rfl⟩
  go_wp2
  go_ret
  exact ⟨rfl, rfl⟩

/-- A frame of nothing. -/
def zFr : Array Value := #[.int .u8 0, .int .u8 0, .int .u8 0, .int .u8 0, .int .u8 0, .int .u8 0, .int .u8 0, .int .u8 0, .int .u8 0, .int .u8 0, .int .u8 0, .int .u8 0, .slice none 0 0, .int .i64 0, .int .i64 0, .int .i64 0, .int .i64 0, .int .i64 0, .int .i64 0, .int .i64 0, .string ⟨#[]⟩]

theorem addr_same0 (W : World) : (Op.equalIn 10000 25 (.agg (c6 z6)) (.agg (c6 z6))).run Tryd.prog W = .ok true W := by kernel_rfl

set_option maxHeartbeats 6400000 in
theorem frameSame_nil (w : World) : Calls Tryd.prog 49 #[.agg zFr, .agg zFr] w fun e w' => e = .returned (.bool true) ∧ Below w.heap.size w w' := by
  have hs0 := addr_same0
  go_enter Tryd.func49, Tryd.ntmps49
  go_upto_region 1 with (first
    | (refine box_blk (o := ⟨some 2, _, _, _, _, _⟩) 48 zFr (by rfl) (by rfl) rfl ?_; intro w1 HA1 B1)
    | (refine box_blk (o := ⟨some 3, _, _, _, _, _⟩) 48 zFr (by rfl) (by rfl) rfl ?_; intro w2 HB2 b2; have HA2 := HA1.kept b2; have B2 := B1.trans (b2.mono B1.size)))
  (try simp only [Act.put, List.setIfInBounds_toArray, List.set_cons_zero, List.set_cons_succ])
  have hAl := HA2.lt
  have hBl := HB2.lt
  clear HA1 B1 b2
  generalize w1.heap.size = B at *
  have L : ∀ (A : Nat), Blk w2 A 48 zFr → ∀ k v, zFr[k]? = some v → w2.cell? ⟨A, k, none⟩ = some v := fun A h k v hk => h.cv k v hk
  have p13 := L _ HA2 13 (.int .i64 0) rfl
  have p14 := L _ HA2 14 (.int .i64 0) rfl
  have p15 := L _ HA2 15 (.int .i64 0) rfl
  have p16 := L _ HA2 16 (.int .i64 0) rfl
  have p17 := L _ HA2 17 (.int .i64 0) rfl
  have p18 := L _ HA2 18 (.int .i64 0) rfl
  have p19 := L _ HA2 19 (.int .i64 0) rfl
  have p20 := L _ HA2 20 (.string ⟨#[]⟩) rfl
  have p12 := L _ HA2 12 (.slice none 0 0) rfl
  have q13 := L _ HB2 13 (.int .i64 0) rfl
  have q14 := L _ HB2 14 (.int .i64 0) rfl
  have q15 := L _ HB2 15 (.int .i64 0) rfl
  have q16 := L _ HB2 16 (.int .i64 0) rfl
  have q17 := L _ HB2 17 (.int .i64 0) rfl
  have q18 := L _ HB2 18 (.int .i64 0) rfl
  have q19 := L _ HB2 19 (.int .i64 0) rfl
  have q20 := L _ HB2 20 (.string ⟨#[]⟩) rfl
  have q12 := L _ HB2 12 (.slice none 0 0) rfl
  clear L
  refine wp_region_lit ?_
  simp only [List.append_eq, List.cons_append, List.nil_append]
  go_wp2_with (first
    | (refine load_blk (B := w.heap.size) (k := 0) 25 (c6 z6) (by rfl) rfl rfl HA2 (by kernel_rfl) (by kernel_rfl) rfl ?_)
    | (refine load_blk (B := B) (k := 0) 25 (c6 z6) (by rfl) rfl rfl HB2 (by kernel_rfl) (by kernel_rfl) rfl ?_)
    | (refine load_blk (B := w.heap.size) (k := 6) 25 (c6 z6) (by rfl) rfl rfl HA2 (by kernel_rfl) (by kernel_rfl) rfl ?_)
    | (refine load_blk (B := B) (k := 6) 25 (c6 z6) (by rfl) rfl rfl HB2 (by kernel_rfl) (by kernel_rfl) rfl ?_))
  refine (eqNil_tag _).mono ?_
  rintro e w3 ⟨rfl, rfl⟩
  go_wp2
  go_ret
  exact ⟨rfl, B2⟩

end Go.Proofs.YtdjljnpbnhampaaDoor

namespace Go.Proofs.YtdjljnpbnhampaaDoor
open Go.RowKit
attribute [local go_sem ↓] Go.wp_at_zero Go.wp_at_succ
set_option linter.unusedSimpArgs false
set_option linter.unusedVariables false
set_option maxRecDepth 100000

theorem in_same (x : Ins) (W : World) : (Op.equalIn 10000 111 (.agg (inC x)) (.agg (inC x))).run Tryd.prog W = .ok true W := by
  have h := run_eql_in 9996 x x W
  rw [eqIn_self] at h
  exact h

theorem CellsAt.drewC {w : World} {B o : Nat} {X : Array Value} (h : CellsAt w B o X) : CellsAt w.drew B o X := h

set_option maxHeartbeats 6400000 in
theorem eqIns_any (a1 : Option Addr) (c1 : Nat) (a2 : Option Addr) (c2 : Nat) (l : List Ins) (w : World) (h1 : InIn w a1 l) (h2 : InIn w a2 l) (hlen : l.length ≤ 1000000) :
    Calls Tryd.prog 50 #[.slice a1 l.length c1, .slice a2 l.length c2] w fun e w' => e = .returned (.bool true) ∧ Below w.heap.size w w' := by
  go_enter Tryd.func50, Tryd.ntmps50
  go_wp2_with fail
  go_loopw [13] (fun i wr => ∃ k : Nat, k ≤ l.length ∧ i = .int .i64 k ∧ Below w.heap.size w wr) (fun i _ => l.length - (intOf i).toNat)
  case atStart => exact ⟨0, by omega, rfl, Below.refl _ _⟩
  case round =>
    obtain ⟨k, hk, rfl, hb⟩ := hrel
    by_cases hlt : k < l.length
    · obtain ⟨b1, o1, rfl, hb1, hat1⟩ := h1.at hlt
      obtain ⟨b2, o2, rfl, hb2, hat2⟩ := h2.at hlt
      have q1 : (k : Int) < (l.length : Int) := by omega
      have q2 : decide ((k : Int) < (l.length : Int)) = true := decide_eq_true q1
      have q3 : (0 : Int) ≤ (k : Int) := by omega
      have HK1 := (hat1 k hlt).below hb hb1
      have HK2 := (hat2 k hlt).below hb hb2
      have HEQ := fun W => in_same l[k] W
      generalize l[k] = x at *
      go_upto_region 6 with (fail)
      refine wp_region_noPanic ?_
      refine wp_region_held_drew (S := (fun w' => CellsAt w' b1 (o1 + k * 19) (inC x) ∧ CellsAt w' b2 (o2 + k * 19) (inC x))) (by kernel_rfl) ?_ (fun hHeld => ?_)
      · exact ⟨HK1.drewC, HK2.drewC⟩
      refine wpAnyH_take (i := 0) (v := ?_) rfl (by kernel_rfl) (by kernel_rfl) (by kernel_rfl) (fun _ _ _ h => h) (Or.inl ⟨by rfl, ?_⟩) (by assumption) ?_
      rotate_left
      · (intro w hSw; (try dsimp only at hSw); go_simp; (try with_reducible rfl))
      (try simp only [Act.put, List.getElem_toArray, List.getElem_cons_zero, List.getElem_cons_succ, List.setIfInBounds_toArray, List.set_cons_zero, List.set_cons_succ])
      refine wpAnyH_take (i := 1) (v := ?_) rfl (by kernel_rfl) (by kernel_rfl) (by kernel_rfl) (fun _ _ _ h => h) (Or.inl ⟨by rfl, ?_⟩) (by assumption) ?_
      rotate_left
      · (intro w hSw; (try dsimp only at hSw); go_simp; (try with_reducible rfl))
      (try simp only [Act.put, List.getElem_toArray, List.getElem_cons_zero, List.getElem_cons_succ, List.setIfInBounds_toArray, List.set_cons_zero, List.set_cons_succ])
      refine wpAnyH_take (i := 2) (v := ?_) rfl (by kernel_rfl) (by kernel_rfl) (by kernel_rfl) (fun _ _ _ h => h) (Or.inl ⟨by rfl, ?_⟩) (by assumption) ?_
      rotate_left
      · (intro w hSw; (try dsimp only at hSw); go_simp; (try with_reducible rfl))
      (try simp only [Act.put, List.getElem_toArray, List.getElem_cons_zero, List.getElem_cons_succ, List.setIfInBounds_toArray, List.set_cons_zero, List.set_cons_succ])
      refine wpAnyH_take (i := 3) (v := .agg (inC x)) rfl (by kernel_rfl) (by kernel_rfl) (by kernel_rfl) (fun _ _ _ h => h) (Or.inl ⟨by rfl, fun w hSw => exec_load_cells 111 (inC x) rfl rfl hSw.1 (by kernel_rfl) (by kernel_rfl)⟩) (by assumption) ?_
      (try simp only [Act.put, List.getElem_toArray, List.getElem_cons_zero, List.getElem_cons_succ, List.setIfInBounds_toArray, List.set_cons_zero, List.set_cons_succ])
      refine wpAnyH_take (i := 4) (v := ?_) rfl (by kernel_rfl) (by kernel_rfl) (by kernel_rfl) (fun _ _ _ h => h) (Or.inl ⟨by rfl, ?_⟩) (by assumption) ?_
      rotate_left
      · (intro w hSw; (try dsimp only at hSw); go_simp; (try with_reducible rfl))
      (try simp only [Act.put, List.getElem_toArray, List.getElem_cons_zero, List.getElem_cons_succ, List.setIfInBounds_toArray, List.set_cons_zero, List.set_cons_succ])
      refine wpAnyH_take (i := 5) (v := ?_) rfl (by kernel_rfl) (by kernel_rfl) (by kernel_rfl) (fun _ _ _ h => h) (Or.inl ⟨by rfl, ?_⟩) (by assumption) ?_
      rotate_left
      · (intro w hSw; (try dsimp only at hSw); go_simp; (try with_reducible rfl))
      (try simp only [Act.put, List.getElem_toArray, List.getElem_cons_zero, List.getElem_cons_succ, List.setIfInBounds_toArray, List.set_cons_zero, List.set_cons_succ])
      refine wpAnyH_take (i := 6) (v := ?_) rfl (by kernel_rfl) (by kernel_rfl) (by kernel_rfl) (fun _ _ _ h => h) (Or.inl ⟨by rfl, ?_⟩) (by assumption) ?_
      rotate_left
      · (intro w hSw; (try dsimp only at hSw); go_simp; (try with_reducible rfl))
      (try simp only [Act.put, List.getElem_toArray, List.getElem_cons_zero, List.getElem_cons_succ, List.setIfInBounds_toArray, List.set_cons_zero, List.set_cons_succ])
      refine wpAnyH_take (i := 7) (v := .agg (inC x)) rfl (by kernel_rfl) (by kernel_rfl) (by kernel_rfl) (fun _ _ _ h => h) (Or.inl ⟨by rfl, fun w hSw => exec_load_cells 111 (inC x) rfl rfl hSw.2 (by kernel_rfl) (by kernel_rfl)⟩) (by assumption) ?_
      (try simp only [Act.put, List.getElem_toArray, List.getElem_cons_zero, List.getElem_cons_succ, List.setIfInBounds_toArray, List.set_cons_zero, List.set_cons_succ])
      refine wpAnyH_take (i := 8) (v := .bool false) rfl (by kernel_rfl) (by kernel_rfl) (by kernel_rfl) (fun _ _ _ h => h) (Or.inl ⟨by rfl, fun w hSw => exec_eq_agg .neq 111 (inC x) (inC x) true rfl (Or.inr rfl) rfl rfl (by kernel_rfl) (HEQ w)⟩) (by assumption) ?_
      (try simp only [Act.put, List.getElem_toArray, List.getElem_cons_zero, List.getElem_cons_succ, List.setIfInBounds_toArray, List.set_cons_zero, List.set_cons_succ])
      refine wpAnyH_done (by kernel_rfl) ?_ _
      refine NoPanic.normal ?_
      have hbd := hb.drew
      go_wp2
      go_roundw
      case rel => exact ⟨k + 1, by omega, by go_num, hbd⟩
      case measure => simp [intOf]; omega
    · obtain rfl : k = l.length := by omega
      have q2 : decide ((l.length : Int) < (l.length : Int)) = false := decide_eq_false (by omega)
      go_wp2
      go_ret
      exact ⟨rfl, hb⟩

end Go.Proofs.YtdjljnpbnhampaaDoor

namespace Go.Proofs.YtdjljnpbnhampaaDoor
open Go.RowKit
attribute [local go_sem ↓] Go.wp_at_zero Go.wp_at_succ
set_option linter.unusedSimpArgs false
set_option linter.unusedVariables false
set_option maxRecDepth 100000



theorem ofConfig_any (f : Fl) (w : World) :
    Calls Tryd.prog 76 #[.agg (flC f)] w fun e w' => e = .returned (.agg (flC (cfF f))) ∧ Below w.heap.size w w' := by
  obtain ⟨HA, HB, B0⟩ := two_blks w 23 23 (flC f) (flC zFl)
  have c0 := HA.cv 0 (.bool f.ch) rfl
  have c6 := HA.cv 6 (.bool f.ac) rfl
  go_enter Tryd.func76, Tryd.ntmps76
  go_upto_region 1 with (refine alloc_blk 23 (flC zFl) (by rfl) rfl Tryd.flZero ?_)
  generalize ((w.alloc (.cells (flC f) 23)).alloc (.cells (flC zFl) 23)) = w1 at *
  go_wp2_with (first
    | (refine build_blk (t := 23) (flC (cfF f)) (by rfl) rfl (by kernel_rfl) ?_)
    | (refine store_blk (k := 0) 23 (.agg (flC (cfF f))) (flC (cfF f)) (by rfl) rfl rfl rfl HB (by kernel_rfl) (show (7 : Nat) ≤ 7 from Nat.le_refl 7) (by rfl) (st_whole _ _ rfl) ?_; intro w7 R7 b7 g7))
  exact bodyPost_ret (results_blk rfl rfl R7 (by kernel_rfl) (by kernel_rfl)) rfl ⟨rfl, B0.trans (b7.mono (by simp))⟩

/-- A number in a cell of its own. -/
def One (w : World) (B : Nat) (n : Int) : Prop := Blk w B 3 #[.int .i64 n]

theorem and1 : ∀ y : Nat, y < 256 → bits .and .i64 (y : Int) 1 = ((y % 2 : Nat) : Int) := by decide +kernel

theorem and3 : ∀ y : Nat, y < 256 → bits .and .i64 (y : Int) 3 = ((y % 4 : Nat) : Int) := by decide +kernel

theorem cast_one (a : Nat) : (((a % 2 : Nat) : Int) == 1) = (a % 2 == 1) := by
  rcases Nat.mod_two_eq_zero_or_one a with h | h <;> rw [h] <;> rfl

/-- A bit, as the code takes it. -/
theorem bit_code (B : Nat) (n i : Nat) (hn : n < 256) (hi : i ≤ 7) (w : World) (h : One w B n) :
    Calls Tryd.prog 103 #[.int .i64 i, .pointer (some ⟨B, 0, none⟩)] w fun e w' => e = .returned (.bool (n / 2 ^ i % 2 == 1)) ∧ w = w' := by
  have c0 := h.cv 0 (.int .i64 n) rfl
  have HB : Hid ((bits BinOp.and IntKind.i64 ((n : Int) / 2 ^ i) 1 == 1) = (n / 2 ^ i % 2 == 1)) := by
    show _ = _
    have e : ((n : Int) / 2 ^ i) = ((n / 2 ^ i : Nat) : Int) := by simp
    rw [e, and1 _ (Nat.lt_of_le_of_lt (Nat.div_le_self _ _) hn), cast_one]
  go_enter Tryd.func103, Tryd.ntmps103
  go_wp2
  go_ret
  refine ⟨?_, rfl⟩
  show Ending.returned (.bool (bits BinOp.and IntKind.i64 ((n : Int) / 2 ^ i) 1 == 1)) = _
  rw [HB.out]

theorem bit_ref (B : Nat) (n m : Nat) (hn : n < 256) (hm : 1 ≤ m) (hm2 : m ≤ 128) (w : World) (h : One w B n) :
    Calls Tryd.prog 72 #[.int .i64 m, .pointer (some ⟨B, 0, none⟩)] w fun e w' => e = .returned (.bool (n / m % 2 == 1)) ∧ w = w' := by
  have c0 := h.cv 0 (.int .i64 n) rfl
  have HB : Hid (((wrap64 ((n : Int) / (m : Int))).tmod 2 == 1) = (n / m % 2 == 1)) := by
    show _ = _
    have e : ((n : Int) / (m : Int)) = ((n / m : Nat) : Int) := by simp
    have e2 : n / m < 256 := Nat.lt_of_le_of_lt (Nat.div_le_self _ _) hn
    rw [e]
    generalize n / m = x at *
    have e3 : wrap64 (x : Int) = (x : Int) := by unfold wrap64; omega
    rw [e3, ← cast_one, Int.tmod_eq_emod_of_nonneg (by omega)]
    rfl
  go_enter Tryd.func72, Tryd.ntmps72
  go_wp2
  go_ret
  refine ⟨?_, rfl⟩
  show Ending.returned (.bool ((wrap64 ((n : Int) / (m : Int))).tmod 2 == 1)) = _
  rw [HB.out]

end Go.Proofs.YtdjljnpbnhampaaDoor

namespace Go.Proofs.YtdjljnpbnhampaaDoor
open Go.RowKit
attribute [local go_sem ↓] Go.wp_at_zero Go.wp_at_succ
set_option linter.unusedSimpArgs false
set_option linter.unusedVariables false
set_option maxRecDepth 100000

theorem exec_build_blk {P : Program} {a : Act} {o : Oper} {w : World} {t : TypeId} {parts : Array (Nat × Operand)} (X : Array Value) (ho : o.op = .build t parts)
    (hf : P.built t (parts.map fun (i, x) => (i, a.eval x)).toList = some X) : (execOp a.eval o).run P w = .ok (.value (.agg X)) w := by
  have h1 := run_build (P := P) w t (parts.map fun (i, x) => (i, a.eval x)) X hf
  unfold execOp
  simp only [ho, Sem.run_bind, Result.andThen_ok, h1, Sem.run_pure]

set_option maxHeartbeats 3200000 in
theorem flagsOf_any (n : Nat) (hn : n < 256) (w : World) :
    Calls Tryd.prog 37 #[.int .i64 n] w fun e w' => e = .returned (.agg (flC (ofF n))) ∧ Below w.heap.size w w' := by
  have R0 : Hid (∀ (W : World), One W w.heap.size n → Calls Tryd.prog 72 #[.int .i64 1, .pointer (some ⟨w.heap.size, 0, none⟩)] W fun e w' => e = .returned (.bool (n % 2 == 1)) ∧ W = w') := fun W h => by simpa using bit_ref w.heap.size n 1 hn (by decide) (by decide) W h
  have R1 : Hid (∀ (W : World), One W w.heap.size n → Calls Tryd.prog 72 #[.int .i64 2, .pointer (some ⟨w.heap.size, 0, none⟩)] W fun e w' => e = .returned (.bool (n / 2 % 2 == 1)) ∧ W = w') := fun W h => by simpa using bit_ref w.heap.size n 2 hn (by decide) (by decide) W h
  have R2 : Hid (∀ (W : World), One W w.heap.size n → Calls Tryd.prog 72 #[.int .i64 16, .pointer (some ⟨w.heap.size, 0, none⟩)] W fun e w' => e = .returned (.bool (n / 16 % 2 == 1)) ∧ W = w') := fun W h => by simpa using bit_ref w.heap.size n 16 hn (by decide) (by decide) W h
  have R3 : Hid (∀ (W : World), One W w.heap.size n → Calls Tryd.prog 72 #[.int .i64 32, .pointer (some ⟨w.heap.size, 0, none⟩)] W fun e w' => e = .returned (.bool (n / 32 % 2 == 1)) ∧ W = w') := fun W h => by simpa using bit_ref w.heap.size n 32 hn (by decide) (by decide) W h
  have R4 : Hid (∀ (W : World), One W w.heap.size n → Calls Tryd.prog 72 #[.int .i64 64, .pointer (some ⟨w.heap.size, 0, none⟩)] W fun e w' => e = .returned (.bool (n / 64 % 2 == 1)) ∧ W = w') := fun W h => by simpa using bit_ref w.heap.size n 64 hn (by decide) (by decide) W h
  have R5 : Hid (∀ (W : World), One W w.heap.size n → Calls Tryd.prog 72 #[.int .i64 128, .pointer (some ⟨w.heap.size, 0, none⟩)] W fun e w' => e = .returned (.bool (n / 128 % 2 == 1)) ∧ W = w') := fun W h => by simpa using bit_ref w.heap.size n 128 hn (by decide) (by decide) W h
  have hq : ((IntKind.i64.wrap ((n : Int) / 4)).tmod 4) = (n : Int) / 4 % 4 := by
    have e : IntKind.i64.wrap ((n : Int) / 4) = ((n / 4 : Nat) : Int) := by rw [IntKind.wrap_i64]; omega
    rw [e, Int.tmod_eq_emod_of_nonneg (by omega)]
    rfl
  have ⟨H1, H2, B0⟩ := two_blks w 3 23 #[.int .i64 n] (flC zFl)
  have c1 := H1.cv 0 (.int .i64 n) rfl
  go_enter Tryd.func37, Tryd.ntmps37
  go_upto_region 2 with (refine alloc_blk 23 (flC zFl) (by rfl) rfl Tryd.flZero ?_)
  generalize ((w.alloc (.cells #[.int .i64 (n : Int)] 3)).alloc (.cells (flC zFl) 23)) = w1 at *
  have H1d : One w1.drew w.heap.size n := H1.drew
  have K5 : ∀ w5, Below (w.heap.size + 1) w1.drew w5 → w5.cell? ⟨w.heap.size, 0, none⟩ = some (.int .i64 n) := fun w5 b5 => (H1.drew.below b5 (by omega)).cv 0 (.int .i64 n) rfl
  refine wp_region_noPanic ?_
  refine wp_region_held_drew (S := (fun w' => w'.cell? ⟨w.heap.size, 0, none⟩ = some (.int .i64 n))) (by kernel_rfl) ?_ (fun hHeld => ?_)
  · exact c1
  refine wpAnyH_take (i := 0) (v := ?_) rfl (by kernel_rfl) (by kernel_rfl) (by kernel_rfl) (fun _ _ _ h => h) (Or.inl ⟨by rfl, ?_⟩) (by assumption) ?_
  rotate_left
  · (intro w hSw; (try dsimp only at hSw); go_simp; (try with_reducible rfl))
  (try simp only [Act.put, List.getElem_toArray, List.getElem_cons_zero, List.getElem_cons_succ, List.setIfInBounds_toArray, List.set_cons_zero, List.set_cons_succ])
  refine wpAnyH_take (i := 2) (v := ?_) rfl (by kernel_rfl) (by kernel_rfl) (by kernel_rfl) (fun _ _ _ h => h) (Or.inl ⟨by rfl, ?_⟩) (by assumption) ?_
  rotate_left
  · (intro w hSw; (try dsimp only at hSw); go_simp; (try with_reducible rfl))
  (try simp only [Act.put, List.getElem_toArray, List.getElem_cons_zero, List.getElem_cons_succ, List.setIfInBounds_toArray, List.set_cons_zero, List.set_cons_succ])
  refine wpAnyH_take (i := 7) (v := ?_) rfl (by kernel_rfl) (by kernel_rfl) (by kernel_rfl) (fun _ _ _ h => h) (Or.inl ⟨by rfl, ?_⟩) (by assumption) ?_
  rotate_left
  · (intro w hSw; (try dsimp only at hSw); go_simp; (try with_reducible rfl))
  (try simp only [Act.put, List.getElem_toArray, List.getElem_cons_zero, List.getElem_cons_succ, List.setIfInBounds_toArray, List.set_cons_zero, List.set_cons_succ])
  refine wpAnyH_take (i := 9) (v := ?_) rfl (by kernel_rfl) (by kernel_rfl) (by kernel_rfl) (fun _ _ _ h => h) (Or.inl ⟨by rfl, ?_⟩) (by assumption) ?_
  rotate_left
  · (intro w hSw; (try dsimp only at hSw); go_simp; (try with_reducible rfl))
  (try simp only [Act.put, List.getElem_toArray, List.getElem_cons_zero, List.getElem_cons_succ, List.setIfInBounds_toArray, List.set_cons_zero, List.set_cons_succ])
  refine wpAnyH_take (i := 11) (v := ?_) rfl (by kernel_rfl) (by kernel_rfl) (by kernel_rfl) (fun _ _ _ h => h) (Or.inl ⟨by rfl, ?_⟩) (by assumption) ?_
  rotate_left
  · (intro w hSw; (try dsimp only at hSw); go_simp; (try with_reducible rfl))
  (try simp only [Act.put, List.getElem_toArray, List.getElem_cons_zero, List.getElem_cons_succ, List.setIfInBounds_toArray, List.set_cons_zero, List.set_cons_succ])
  refine wpAnyH_take (i := 13) (v := ?_) rfl (by kernel_rfl) (by kernel_rfl) (by kernel_rfl) (fun _ _ _ h => h) (Or.inl ⟨by rfl, ?_⟩) (by assumption) ?_
  rotate_left
  · (intro w hSw; (try dsimp only at hSw); go_simp; (try with_reducible rfl))
  (try simp only [Act.put, List.getElem_toArray, List.getElem_cons_zero, List.getElem_cons_succ, List.setIfInBounds_toArray, List.set_cons_zero, List.set_cons_succ])
  refine wpAnyH_take (i := 4) (v := ?_) rfl (by kernel_rfl) (by kernel_rfl) (by kernel_rfl) (fun _ _ _ h => h) (Or.inl ⟨by rfl, ?_⟩) (by assumption) ?_
  rotate_left
  · (intro w hSw; (try dsimp only at hSw); go_simp; (try with_reducible rfl))
  (try simp only [Act.put, List.getElem_toArray, List.getElem_cons_zero, List.getElem_cons_succ, List.setIfInBounds_toArray, List.set_cons_zero, List.set_cons_succ])
  refine wpAnyH_take (i := 5) (v := ?_) rfl (by kernel_rfl) (by kernel_rfl) (by kernel_rfl) (fun _ _ _ h => h) (Or.inl ⟨by rfl, ?_⟩) (by assumption) ?_
  rotate_left
  · (intro w hSw; (try dsimp only at hSw); go_simp; (try with_reducible rfl))
  (try simp only [Act.put, List.getElem_toArray, List.getElem_cons_zero, List.getElem_cons_succ, List.setIfInBounds_toArray, List.set_cons_zero, List.set_cons_succ])
  refine wpAnyH_take (i := 6) (v := .int .i64 ((n / 4 % 4 : Nat) : Int)) rfl (by kernel_rfl) (by kernel_rfl) (by kernel_rfl) (fun _ _ _ h => h) (Or.inl ⟨by rfl, fun w hSw => by go_simp⟩) (by assumption) ?_
  (try simp only [Act.put, List.getElem_toArray, List.getElem_cons_zero, List.getElem_cons_succ, List.setIfInBounds_toArray, List.set_cons_zero, List.set_cons_succ])
  refine wpAnyH_ready (rs := [1]) (by kernel_rfl) (by simp) ?_
  refine AllReadyH.cons rfl (fun K hK => ?_) AllReadyH.nil
  simp only [List.getElem_toArray, List.getElem_cons_zero, List.getElem_cons_succ]
  go_simp
  with_reducible refine (R0.out _ H1d).mono ?_
  rintro e w' ⟨rfl, rfl⟩
  refine hK.out _ _ ?_ (fun hHeld => ?_)
  · exact c1
  clear hK K
  (try simp only [Act.put, List.getElem_toArray, List.getElem_cons_zero, List.getElem_cons_succ, List.setIfInBounds_toArray, List.set_cons_zero, List.set_cons_succ])
  refine wpAnyH_ready (rs := [3]) (by kernel_rfl) (by simp) ?_
  refine AllReadyH.cons rfl (fun K hK => ?_) AllReadyH.nil
  simp only [List.getElem_toArray, List.getElem_cons_zero, List.getElem_cons_succ]
  go_simp
  with_reducible refine (R1.out _ H1d).mono ?_
  rintro e w' ⟨rfl, rfl⟩
  refine hK.out _ _ ?_ (fun hHeld => ?_)
  · exact c1
  clear hK K
  (try simp only [Act.put, List.getElem_toArray, List.getElem_cons_zero, List.getElem_cons_succ, List.setIfInBounds_toArray, List.set_cons_zero, List.set_cons_succ])
  refine wpAnyH_ready (rs := [8]) (by kernel_rfl) (by simp) ?_
  refine AllReadyH.cons rfl (fun K hK => ?_) AllReadyH.nil
  simp only [List.getElem_toArray, List.getElem_cons_zero, List.getElem_cons_succ]
  go_simp
  with_reducible refine (R2.out _ H1d).mono ?_
  rintro e w' ⟨rfl, rfl⟩
  refine hK.out _ _ ?_ (fun hHeld => ?_)
  · exact c1
  clear hK K
  (try simp only [Act.put, List.getElem_toArray, List.getElem_cons_zero, List.getElem_cons_succ, List.setIfInBounds_toArray, List.set_cons_zero, List.set_cons_succ])
  refine wpAnyH_ready (rs := [10]) (by kernel_rfl) (by simp) ?_
  refine AllReadyH.cons rfl (fun K hK => ?_) AllReadyH.nil
  simp only [List.getElem_toArray, List.getElem_cons_zero, List.getElem_cons_succ]
  go_simp
  with_reducible refine (R3.out _ H1d).mono ?_
  rintro e w' ⟨rfl, rfl⟩
  refine hK.out _ _ ?_ (fun hHeld => ?_)
  · exact c1
  clear hK K
  (try simp only [Act.put, List.getElem_toArray, List.getElem_cons_zero, List.getElem_cons_succ, List.setIfInBounds_toArray, List.set_cons_zero, List.set_cons_succ])
  refine wpAnyH_ready (rs := [12]) (by kernel_rfl) (by simp) ?_
  refine AllReadyH.cons rfl (fun K hK => ?_) AllReadyH.nil
  simp only [List.getElem_toArray, List.getElem_cons_zero, List.getElem_cons_succ]
  go_simp
  with_reducible refine (R4.out _ H1d).mono ?_
  rintro e w' ⟨rfl, rfl⟩
  refine hK.out _ _ ?_ (fun hHeld => ?_)
  · exact c1
  clear hK K
  (try simp only [Act.put, List.getElem_toArray, List.getElem_cons_zero, List.getElem_cons_succ, List.setIfInBounds_toArray, List.set_cons_zero, List.set_cons_succ])
  refine wpAnyH_ready (rs := [14]) (by kernel_rfl) (by simp) ?_
  refine AllReadyH.cons rfl (fun K hK => ?_) AllReadyH.nil
  simp only [List.getElem_toArray, List.getElem_cons_zero, List.getElem_cons_succ]
  go_simp
  with_reducible refine (R5.out _ H1d).mono ?_
  rintro e w' ⟨rfl, rfl⟩
  refine hK.out _ _ ?_ (fun hHeld => ?_)
  · exact c1
  clear hK K
  (try simp only [Act.put, List.getElem_toArray, List.getElem_cons_zero, List.getElem_cons_succ, List.setIfInBounds_toArray, List.set_cons_zero, List.set_cons_succ])
  refine wpAnyH_take (i := 15) (v := .agg (flC ⟨n % 2 == 1, n / 2 % 2 == 1, ((n / 4 % 4 : Nat) : Int), n / 16 % 2 == 1, n / 32 % 2 == 1, n / 64 % 2 == 1, n / 128 % 2 == 1⟩)) rfl (by kernel_rfl) (by kernel_rfl) (by kernel_rfl) (fun _ _ _ h => h) (Or.inl ⟨by rfl, fun w hSw => exec_build_blk (t := 23) (flC ⟨n % 2 == 1, n / 2 % 2 == 1, ((n / 4 % 4 : Nat) : Int), n / 16 % 2 == 1, n / 32 % 2 == 1, n / 64 % 2 == 1, n / 128 % 2 == 1⟩) rfl (by kernel_rfl)⟩) (by assumption) ?_
  (try simp only [Act.put, List.getElem_toArray, List.getElem_cons_zero, List.getElem_cons_succ, List.setIfInBounds_toArray, List.set_cons_zero, List.set_cons_succ])
  refine wpAnyH_ready (rs := [16]) (by kernel_rfl) (by simp) ?_
  refine AllReadyH.cons rfl (fun K hK => ?_) AllReadyH.nil
  simp only [List.getElem_toArray, List.getElem_cons_zero, List.getElem_cons_succ]
  rw [if_pos (by rfl)]
  refine wp_store_op (k := 0) 23 (.agg (flC ⟨n % 2 == 1, n / 2 % 2 == 1, ((n / 4 % 4 : Nat) : Int), n / 16 % 2 == 1, n / 32 % 2 == 1, n / 64 % 2 == 1, n / 128 % 2 == 1⟩)) (flC ⟨n % 2 == 1, n / 2 % 2 == 1, ((n / 4 % 4 : Nat) : Int), n / 16 % 2 == 1, n / 32 % 2 == 1, n / 64 % 2 == 1, n / 128 % 2 == 1⟩) (by rfl) rfl rfl H2 (by kernel_rfl) (show (7 : Nat) ≤ 7 from Nat.le_refl 7) (by rfl) (st_whole _ _ rfl) (fun w5 R5 b5 g5 => ?_)
  refine hK.out _ _ ?_ (fun hHeld => ?_)
  · exact K5 w5 b5
  clear hK K
  (try simp only [Act.put, List.getElem_toArray, List.getElem_cons_zero, List.getElem_cons_succ, List.setIfInBounds_toArray, List.set_cons_zero, List.set_cons_succ])
  refine wpAnyH_done (by kernel_rfl) ?_ _
  refine NoPanic.normal ?_
  go_wp2
  exact bodyPost_ret (results_blk rfl rfl R5 (by kernel_rfl) (by kernel_rfl)) rfl ⟨rfl, B0.drew.trans (b5.mono (by omega))⟩

set_option maxHeartbeats 3200000 in
theorem of_any (n : Nat) (hn : n < 256) (w : World) :
    Calls Tryd.prog 74 #[.int .i64 n] w fun e w' => e = .returned (.agg (flC (ofF n))) ∧ Below w.heap.size w w' := by
  have R0 : Hid (∀ (W : World), One W w.heap.size n → Calls Tryd.prog 103 #[.int .i64 0, .pointer (some ⟨w.heap.size, 0, none⟩)] W fun e w' => e = .returned (.bool (n % 2 == 1)) ∧ W = w') := fun W h => by simpa using bit_code w.heap.size n 0 hn (by decide) W h
  have R1 : Hid (∀ (W : World), One W w.heap.size n → Calls Tryd.prog 103 #[.int .i64 1, .pointer (some ⟨w.heap.size, 0, none⟩)] W fun e w' => e = .returned (.bool (n / 2 % 2 == 1)) ∧ W = w') := fun W h => by simpa using bit_code w.heap.size n 1 hn (by decide) W h
  have R2 : Hid (∀ (W : World), One W w.heap.size n → Calls Tryd.prog 103 #[.int .i64 4, .pointer (some ⟨w.heap.size, 0, none⟩)] W fun e w' => e = .returned (.bool (n / 16 % 2 == 1)) ∧ W = w') := fun W h => by simpa using bit_code w.heap.size n 4 hn (by decide) W h
  have R3 : Hid (∀ (W : World), One W w.heap.size n → Calls Tryd.prog 103 #[.int .i64 5, .pointer (some ⟨w.heap.size, 0, none⟩)] W fun e w' => e = .returned (.bool (n / 32 % 2 == 1)) ∧ W = w') := fun W h => by simpa using bit_code w.heap.size n 5 hn (by decide) W h
  have R4 : Hid (∀ (W : World), One W w.heap.size n → Calls Tryd.prog 103 #[.int .i64 6, .pointer (some ⟨w.heap.size, 0, none⟩)] W fun e w' => e = .returned (.bool (n / 64 % 2 == 1)) ∧ W = w') := fun W h => by simpa using bit_code w.heap.size n 6 hn (by decide) W h
  have R5 : Hid (∀ (W : World), One W w.heap.size n → Calls Tryd.prog 103 #[.int .i64 7, .pointer (some ⟨w.heap.size, 0, none⟩)] W fun e w' => e = .returned (.bool (n / 128 % 2 == 1)) ∧ W = w') := fun W h => by simpa using bit_code w.heap.size n 7 hn (by decide) W h
  have hq : bits BinOp.and IntKind.i64 ((n : Int) / 4) 3 = (n : Int) / 4 % 4 := by
    have e := and3 (n / 4) (by omega)
    have e2 : ((n / 4 : Nat) : Int) = (n : Int) / 4 := by simp
    rw [e2] at e
    rw [e]
    simp
  have HF := Lib.hid (fun (g : Nat) (W : World) (h : IRow W g [(n : Int)]) => fitsI1 1 (by decide) (by decide) n ⟨by omega, by omega⟩ g W h)
  rw [show fitI 1 (n : Int) = true by simp [fitI]; omega] at HF
  have ⟨H1, H2, B0⟩ := two_blks w 3 23 #[.int .i64 n] (flC zFl)
  have c1 := H1.cv 0 (.int .i64 n) rfl
  go_enter Tryd.func74, Tryd.ntmps74
  go_upto_region 1 with (refine alloc_blk 23 (flC zFl) (by rfl) rfl Tryd.flZero ?_)
  generalize ((w.alloc (.cells #[.int .i64 (n : Int)] 3)).alloc (.cells (flC zFl) 23)) = w0 at *
  go_wp2_with fail
  refine (HF.out w0.heap.size _ (IRow.new1 w0 n _)).mono ?_
  rintro e w1 ⟨rfl, k1⟩
  have b01 : Below w0.heap.size w0 w1 := ((Below.refl _ _).alloc (Nat.le_refl _) _).trans (k1.mono (by simp))
  replace H1 := H1.kept b01
  replace H2 := H2.kept b01
  replace B0 := B0.trans (b01.mono B0.size)
  clear k1 b01
  go_upto_region 4 with (fail)
  have K5 : ∀ w5, Below (w.heap.size + 1) w1.drew w5 → w5.cell? ⟨w.heap.size, 0, none⟩ = some (.int .i64 n) := fun w5 b5 => (H1.drew.below b5 (by omega)).cv 0 (.int .i64 n) rfl
  have H1d : One w1.drew w.heap.size n := H1.drew
  have c2 := H1.cv 0 (.int .i64 n) rfl
  refine wp_region_noPanic ?_
  refine wp_region_held_drew (S := (fun w' => w'.cell? ⟨w.heap.size, 0, none⟩ = some (.int .i64 n))) (by kernel_rfl) ?_ (fun hHeld => ?_)
  · exact c2
  refine wpAnyH_take (i := 0) (v := ?_) rfl (by kernel_rfl) (by kernel_rfl) (by kernel_rfl) (fun _ _ _ h => h) (Or.inl ⟨by rfl, ?_⟩) (by assumption) ?_
  rotate_left
  · (intro w hSw; (try dsimp only at hSw); go_simp; (try with_reducible rfl))
  (try simp only [Act.put, List.getElem_toArray, List.getElem_cons_zero, List.getElem_cons_succ, List.setIfInBounds_toArray, List.set_cons_zero, List.set_cons_succ])
  refine wpAnyH_take (i := 2) (v := ?_) rfl (by kernel_rfl) (by kernel_rfl) (by kernel_rfl) (fun _ _ _ h => h) (Or.inl ⟨by rfl, ?_⟩) (by assumption) ?_
  rotate_left
  · (intro w hSw; (try dsimp only at hSw); go_simp; (try with_reducible rfl))
  (try simp only [Act.put, List.getElem_toArray, List.getElem_cons_zero, List.getElem_cons_succ, List.setIfInBounds_toArray, List.set_cons_zero, List.set_cons_succ])
  refine wpAnyH_take (i := 7) (v := ?_) rfl (by kernel_rfl) (by kernel_rfl) (by kernel_rfl) (fun _ _ _ h => h) (Or.inl ⟨by rfl, ?_⟩) (by assumption) ?_
  rotate_left
  · (intro w hSw; (try dsimp only at hSw); go_simp; (try with_reducible rfl))
  (try simp only [Act.put, List.getElem_toArray, List.getElem_cons_zero, List.getElem_cons_succ, List.setIfInBounds_toArray, List.set_cons_zero, List.set_cons_succ])
  refine wpAnyH_take (i := 9) (v := ?_) rfl (by kernel_rfl) (by kernel_rfl) (by kernel_rfl) (fun _ _ _ h => h) (Or.inl ⟨by rfl, ?_⟩) (by assumption) ?_
  rotate_left
  · (intro w hSw; (try dsimp only at hSw); go_simp; (try with_reducible rfl))
  (try simp only [Act.put, List.getElem_toArray, List.getElem_cons_zero, List.getElem_cons_succ, List.setIfInBounds_toArray, List.set_cons_zero, List.set_cons_succ])
  refine wpAnyH_take (i := 11) (v := ?_) rfl (by kernel_rfl) (by kernel_rfl) (by kernel_rfl) (fun _ _ _ h => h) (Or.inl ⟨by rfl, ?_⟩) (by assumption) ?_
  rotate_left
  · (intro w hSw; (try dsimp only at hSw); go_simp; (try with_reducible rfl))
  (try simp only [Act.put, List.getElem_toArray, List.getElem_cons_zero, List.getElem_cons_succ, List.setIfInBounds_toArray, List.set_cons_zero, List.set_cons_succ])
  refine wpAnyH_take (i := 13) (v := ?_) rfl (by kernel_rfl) (by kernel_rfl) (by kernel_rfl) (fun _ _ _ h => h) (Or.inl ⟨by rfl, ?_⟩) (by assumption) ?_
  rotate_left
  · (intro w hSw; (try dsimp only at hSw); go_simp; (try with_reducible rfl))
  (try simp only [Act.put, List.getElem_toArray, List.getElem_cons_zero, List.getElem_cons_succ, List.setIfInBounds_toArray, List.set_cons_zero, List.set_cons_succ])
  refine wpAnyH_take (i := 4) (v := ?_) rfl (by kernel_rfl) (by kernel_rfl) (by kernel_rfl) (fun _ _ _ h => h) (Or.inl ⟨by rfl, ?_⟩) (by assumption) ?_
  rotate_left
  · (intro w hSw; (try dsimp only at hSw); go_simp; (try with_reducible rfl))
  (try simp only [Act.put, List.getElem_toArray, List.getElem_cons_zero, List.getElem_cons_succ, List.setIfInBounds_toArray, List.set_cons_zero, List.set_cons_succ])
  refine wpAnyH_take (i := 5) (v := ?_) rfl (by kernel_rfl) (by kernel_rfl) (by kernel_rfl) (fun _ _ _ h => h) (Or.inl ⟨by rfl, ?_⟩) (by assumption) ?_
  rotate_left
  · (intro w hSw; (try dsimp only at hSw); go_simp; (try with_reducible rfl))
  (try simp only [Act.put, List.getElem_toArray, List.getElem_cons_zero, List.getElem_cons_succ, List.setIfInBounds_toArray, List.set_cons_zero, List.set_cons_succ])
  refine wpAnyH_take (i := 6) (v := .int .i64 ((n / 4 % 4 : Nat) : Int)) rfl (by kernel_rfl) (by kernel_rfl) (by kernel_rfl) (fun _ _ _ h => h) (Or.inl ⟨by rfl, fun w hSw => by go_simp⟩) (by assumption) ?_
  (try simp only [Act.put, List.getElem_toArray, List.getElem_cons_zero, List.getElem_cons_succ, List.setIfInBounds_toArray, List.set_cons_zero, List.set_cons_succ])
  refine wpAnyH_ready (rs := [1]) (by kernel_rfl) (by simp) ?_
  refine AllReadyH.cons rfl (fun K hK => ?_) AllReadyH.nil
  simp only [List.getElem_toArray, List.getElem_cons_zero, List.getElem_cons_succ]
  go_simp
  with_reducible refine (R0.out _ H1d).mono ?_
  rintro e w' ⟨rfl, rfl⟩
  refine hK.out _ _ ?_ (fun hHeld => ?_)
  · exact c2
  clear hK K
  (try simp only [Act.put, List.getElem_toArray, List.getElem_cons_zero, List.getElem_cons_succ, List.setIfInBounds_toArray, List.set_cons_zero, List.set_cons_succ])
  refine wpAnyH_ready (rs := [3]) (by kernel_rfl) (by simp) ?_
  refine AllReadyH.cons rfl (fun K hK => ?_) AllReadyH.nil
  simp only [List.getElem_toArray, List.getElem_cons_zero, List.getElem_cons_succ]
  go_simp
  with_reducible refine (R1.out _ H1d).mono ?_
  rintro e w' ⟨rfl, rfl⟩
  refine hK.out _ _ ?_ (fun hHeld => ?_)
  · exact c2
  clear hK K
  (try simp only [Act.put, List.getElem_toArray, List.getElem_cons_zero, List.getElem_cons_succ, List.setIfInBounds_toArray, List.set_cons_zero, List.set_cons_succ])
  refine wpAnyH_ready (rs := [8]) (by kernel_rfl) (by simp) ?_
  refine AllReadyH.cons rfl (fun K hK => ?_) AllReadyH.nil
  simp only [List.getElem_toArray, List.getElem_cons_zero, List.getElem_cons_succ]
  go_simp
  with_reducible refine (R2.out _ H1d).mono ?_
  rintro e w' ⟨rfl, rfl⟩
  refine hK.out _ _ ?_ (fun hHeld => ?_)
  · exact c2
  clear hK K
  (try simp only [Act.put, List.getElem_toArray, List.getElem_cons_zero, List.getElem_cons_succ, List.setIfInBounds_toArray, List.set_cons_zero, List.set_cons_succ])
  refine wpAnyH_ready (rs := [10]) (by kernel_rfl) (by simp) ?_
  refine AllReadyH.cons rfl (fun K hK => ?_) AllReadyH.nil
  simp only [List.getElem_toArray, List.getElem_cons_zero, List.getElem_cons_succ]
  go_simp
  with_reducible refine (R3.out _ H1d).mono ?_
  rintro e w' ⟨rfl, rfl⟩
  refine hK.out _ _ ?_ (fun hHeld => ?_)
  · exact c2
  clear hK K
  (try simp only [Act.put, List.getElem_toArray, List.getElem_cons_zero, List.getElem_cons_succ, List.setIfInBounds_toArray, List.set_cons_zero, List.set_cons_succ])
  refine wpAnyH_ready (rs := [12]) (by kernel_rfl) (by simp) ?_
  refine AllReadyH.cons rfl (fun K hK => ?_) AllReadyH.nil
  simp only [List.getElem_toArray, List.getElem_cons_zero, List.getElem_cons_succ]
  go_simp
  with_reducible refine (R4.out _ H1d).mono ?_
  rintro e w' ⟨rfl, rfl⟩
  refine hK.out _ _ ?_ (fun hHeld => ?_)
  · exact c2
  clear hK K
  (try simp only [Act.put, List.getElem_toArray, List.getElem_cons_zero, List.getElem_cons_succ, List.setIfInBounds_toArray, List.set_cons_zero, List.set_cons_succ])
  refine wpAnyH_ready (rs := [14]) (by kernel_rfl) (by simp) ?_
  refine AllReadyH.cons rfl (fun K hK => ?_) AllReadyH.nil
  simp only [List.getElem_toArray, List.getElem_cons_zero, List.getElem_cons_succ]
  go_simp
  with_reducible refine (R5.out _ H1d).mono ?_
  rintro e w' ⟨rfl, rfl⟩
  refine hK.out _ _ ?_ (fun hHeld => ?_)
  · exact c2
  clear hK K
  (try simp only [Act.put, List.getElem_toArray, List.getElem_cons_zero, List.getElem_cons_succ, List.setIfInBounds_toArray, List.set_cons_zero, List.set_cons_succ])
  refine wpAnyH_take (i := 15) (v := .agg (flC ⟨n % 2 == 1, n / 2 % 2 == 1, ((n / 4 % 4 : Nat) : Int), n / 16 % 2 == 1, n / 32 % 2 == 1, n / 64 % 2 == 1, n / 128 % 2 == 1⟩)) rfl (by kernel_rfl) (by kernel_rfl) (by kernel_rfl) (fun _ _ _ h => h) (Or.inl ⟨by rfl, fun w hSw => exec_build_blk (t := 23) (flC ⟨n % 2 == 1, n / 2 % 2 == 1, ((n / 4 % 4 : Nat) : Int), n / 16 % 2 == 1, n / 32 % 2 == 1, n / 64 % 2 == 1, n / 128 % 2 == 1⟩) rfl (by kernel_rfl)⟩) (by assumption) ?_
  (try simp only [Act.put, List.getElem_toArray, List.getElem_cons_zero, List.getElem_cons_succ, List.setIfInBounds_toArray, List.set_cons_zero, List.set_cons_succ])
  refine wpAnyH_ready (rs := [16]) (by kernel_rfl) (by simp) ?_
  refine AllReadyH.cons rfl (fun K hK => ?_) AllReadyH.nil
  simp only [List.getElem_toArray, List.getElem_cons_zero, List.getElem_cons_succ]
  rw [if_pos (by rfl)]
  refine wp_store_op (k := 0) 23 (.agg (flC ⟨n % 2 == 1, n / 2 % 2 == 1, ((n / 4 % 4 : Nat) : Int), n / 16 % 2 == 1, n / 32 % 2 == 1, n / 64 % 2 == 1, n / 128 % 2 == 1⟩)) (flC ⟨n % 2 == 1, n / 2 % 2 == 1, ((n / 4 % 4 : Nat) : Int), n / 16 % 2 == 1, n / 32 % 2 == 1, n / 64 % 2 == 1, n / 128 % 2 == 1⟩) (by rfl) rfl rfl H2 (by kernel_rfl) (show (7 : Nat) ≤ 7 from Nat.le_refl 7) (by rfl) (st_whole _ _ rfl) (fun w5 R5 b5 g5 => ?_)
  refine hK.out _ _ ?_ (fun hHeld => ?_)
  · exact K5 w5 b5
  clear hK K
  (try simp only [Act.put, List.getElem_toArray, List.getElem_cons_zero, List.getElem_cons_succ, List.setIfInBounds_toArray, List.set_cons_zero, List.set_cons_succ])
  refine wpAnyH_done (by kernel_rfl) ?_ _
  refine NoPanic.normal ?_
  go_wp2
  exact bodyPost_ret (results_blk rfl rfl R5 (by kernel_rfl) (by kernel_rfl)) rfl ⟨rfl, B0.drew.trans (b5.mono (by omega))⟩

end Go.Proofs.YtdjljnpbnhampaaDoor

namespace Go.Proofs.YtdjljnpbnhampaaDoor
open Go.RowKit
attribute [local go_sem ↓] Go.wp_at_zero Go.wp_at_succ
set_option linter.unusedSimpArgs false
set_option linter.unusedVariables false
set_option maxRecDepth 100000



theorem within_any (a b c : Int) (w : World) :
    Calls Tryd.prog 33 #[.int .i64 a, .int .i64 b, .int .i64 c] w fun e w' => e = .returned (.bool (decide (b ≤ a) && decide (a ≤ c))) ∧ w = w' := by
  by_cases c1 : b ≤ a
  · have d1 : decide (b ≤ a) = true := decide_eq_true c1
    rw [d1, Bool.true_and]
    go_enter Tryd.func33, Tryd.ntmps33
    go_wp2
    go_ret
    exact ⟨rfl, rfl⟩
  · have d1 : decide (b ≤ a) = false := decide_eq_false c1
    rw [d1, Bool.false_and]
    go_enter Tryd.func33, Tryd.ntmps33
    go_wp2
    go_ret
    exact ⟨rfl, rfl⟩









end Go.Proofs.YtdjljnpbnhampaaDoor

namespace Go.Proofs.YtdjljnpbnhampaaDoor
open Go.RowKit
attribute [local go_sem ↓] Go.wp_at_zero Go.wp_at_succ
set_option linter.unusedSimpArgs false
set_option linter.unusedVariables false
set_option maxRecDepth 100000

/-- What Num(2) and Bytes(6) find. -/
def rdN (l : List UInt8) (off : Nat) (st : RSt) : Nat := beN (tkN l off st 2 true).1

def rdS1 (l : List UInt8) (off : Nat) (st : RSt) : RSt := (tkN l off st 2 true).2

def rdA (l : List UInt8) (off : Nat) (st : RSt) : List UInt8 := (tkN l off (rdS1 l off st) 6 false).1

/-- The state behind a name, and the name. -/
def rdBs (l : List UInt8) (off : Nat) (st : RSt) : RSt := (tkN l off (rdS1 l off st) 6 false).2

def rdB (l : List UInt8) (off : Nat) (st : RSt) : Br := if (rdBs l off st).2.1 = 0 then ⟨(rdN l off st : Int) / 4096 * 4096, (rdN l off st : Int) % 4096, byX (rdA l off st)⟩ else zBr

theorem rdN_lt (l : List UInt8) (off : Nat) (st : RSt) : rdN l off st < 65536 := by
  unfold rdN
  have h := beN_lt (tkN l off st 2 true).1
  have q : (tkN l off st 2 true).1 = [] ∨ (tkN l off st 2 true).1.length = 2 := tkN_len l off st 2 true
  rcases q with q | q
  · rw [q]; decide
  · rw [q] at h; exact h

theorem rdA_ok (l : List UInt8) (off : Nat) (st : RSt) (h : (rdBs l off st).2.1 = 0) : (rdA l off st).length = 6 := by
  obtain ⟨h0, h1, h2⟩ := tkN_ok l off (rdS1 l off st) 6 false h
  unfold rdA
  rw [show ((6 : Int)) = ((6 : Nat) : Int) from rfl, h2]
  simp only [List.length_take, List.length_drop]
  omega

theorem rdA_bad (l : List UInt8) (off : Nat) (st : RSt) (h : ¬ (rdBs l off st).2.1 = 0) : rdA l off st = [] := by
  unfold rdBs at h
  unfold rdA
  by_cases h1 : (rdS1 l off st).2.1 = 0
  · by_cases h2 : (rdS1 l off st).1 + 6 ≤ l.length
    · have e := tkN_go l off (rdS1 l off st) 6 false h1 h2 (by simp)
      rw [show ((6 : Int)) = ((6 : Nat) : Int) from rfl, e] at h
      exact absurd h1 h
    · unfold tkN
      rw [if_neg (by simp [h1]), if_neg (by simp), if_pos (by omega)]
  · rw [tkN_bad l off _ 6 false h1]

theorem rdS1_le (l : List UInt8) (off : Nat) (st : RSt) (h : st.1 ≤ l.length) : (rdS1 l off st).1 ≤ l.length := tkN_le l off st 2 true h

theorem rdBs_le (l : List UInt8) (off : Nat) (st : RSt) (h : st.1 ≤ l.length) : (rdBs l off st).1 ≤ l.length := tkN_le l off _ 6 false (rdS1_le l off st h)

theorem byX_nil : brC ⟨0, 0, byX []⟩ = brC zBr := rfl

set_option maxHeartbeats 6400000 in
theorem prRead_t {g : Nat} {s : ByteArray} {off : Nat} (st : RSt) (w : World) (h : RdT w g s off st) (hp : st.1 ≤ s.size) (hb : off + s.size ≤ 281474976710656) :
    Calls Tryd.prog 45 #[.pointer (some ⟨g, 0, none⟩)] w fun e w' => e = .returned (.agg (brC (rdB s.data.toList off st))) ∧ RdT w' g s off (rdBs s.data.toList off st) ∧ w.grownBy w' (some g) := by
  have hls : s.data.toList.length = s.size := by simp
  have hg := h.lt
  have HP1 := rdS1_le s.data.toList off st (by rw [hls]; exact hp)
  have HP2 := rdBs_le s.data.toList off st (by rw [hls]; exact hp)
  rw [hls] at HP1 HP2
  have N1 := Lib.hid (fun W (h : RdT W g s off st) => num_t st 2 W h hp hb)
  have N2 := Lib.hid (fun W (h : RdT W g s off (rdS1 s.data.toList off st)) => bytes_t (rdS1 s.data.toList off st) 6 W h HP1 hb)
  have hN := rdN_lt s.data.toList off st
  have hnw : wrap64 (beN (tkN s.data.toList off st 2 true).1) = ((rdN s.data.toList off st : Nat) : Int) := by
    show wrap64 ((rdN s.data.toList off st : Nat) : Int) = _
    unfold wrap64
    omega
  have hAok := rdA_ok s.data.toList off st
  have hAbad := rdA_bad s.data.toList off st
  rw [hnw] at N1
  have e1 : (tkN s.data.toList off st 2 true).2 = rdS1 s.data.toList off st := rfl
  have e2 : (tkN s.data.toList off (rdS1 s.data.toList off st) 6 false).1 = rdA s.data.toList off st := rfl
  have e3 : (tkN s.data.toList off (rdS1 s.data.toList off st) 6 false).2 = rdBs s.data.toList off st := rfl
  rw [e1] at N1
  rw [e2, e3] at N2
  clear e1 e2 e3 hnw
  have hres : rdB s.data.toList off st = if (rdBs s.data.toList off st).2.1 = 0 then ⟨(rdN s.data.toList off st : Int) / 4096 * 4096, (rdN s.data.toList off st : Int) % 4096, byX (rdA s.data.toList off st)⟩ else zBr := rfl
  obtain ⟨r, hr⟩ : ∃ r, r = rdB s.data.toList off st := ⟨_, rfl⟩
  rw [← hr]
  rw [hres] at hr
  clear hres
  have HR := Lib.hid hr
  clear hr
  generalize rdN s.data.toList off st = n at *
  generalize rdS1 s.data.toList off st = s1 at *
  generalize rdA s.data.toList off st = t at *
  generalize rdBs s.data.toList off st = s2 at *
  have R1 := Blk.new w 27 (brC zBr)
  have H1 := h.al (.cells (brC zBr) 27)
  have G1 : w.grownBy (w.alloc (.cells (brC zBr) 27)) (some g) := World.grownBy_alloc w _ _
  go_enter Tryd.func45, Tryd.ntmps45
  go_wp2_with (refine alloc_blk 27 (brC zBr) (by rfl) rfl Tryd.brZero ?_)
  generalize w.alloc (.cells (brC zBr) 27) = w1 at *
  refine (N1.out _ H1).mono ?_
  rintro e w2 ⟨rfl, H2, g2⟩
  have R2 := R1.grown g2 (by simp; omega)
  have G2 := grown_same G1 g2
  have lt2 : w.heap.size < w2.heap.size := R2.lt
  clear R1 H1 G1 g2
  have B0 : ∃ b, b = (⟨(n : Int) / 4096 * 4096, (n : Int) % 4096, z6⟩ : Br) := ⟨_, rfl⟩
  go_upto_region 3 with (first
    | (refine build_blk (t := 27) (brC ⟨(n : Int) / 4096 * 4096, (n : Int) % 4096, z6⟩) (by rfl) rfl (by kernel_rfl) ?_)
    | (refine alloc_blk 27 (brC zBr) (by rfl) rfl Tryd.brZero ?_)
    | (refine store_blk (k := 0) 27 (.agg (brC ⟨(n : Int) / 4096 * 4096, (n : Int) % 4096, z6⟩)) (brC ⟨(n : Int) / 4096 * 4096, (n : Int) % 4096, z6⟩) (by rfl) rfl rfl rfl (Blk.new w2 _ _) (by kernel_rfl) (show (8 : Nat) ≤ 8 from Nat.le_refl 8) (by rfl) (st_whole _ _ rfl) ?_; intro w3 V3 b3 g3; have R3 := (R2.alloc (.cells (brC zBr) 27)).below b3 lt2; have H3 := (H2.al (.cells (brC zBr) 27)).other (Blk.new w2 _ _) (by decide) (by decide) g3; have G3 := grown_own (grown_same G2 (World.grownBy_alloc w2 (.cells (brC zBr) 27) (some g))) g3 (by omega)))
  (try simp only [Act.put, List.setIfInBounds_toArray, List.set_cons_zero, List.set_cons_succ])
  generalize w2.heap.size = A at *
  have lt3 : A < w3.heap.size := V3.lt
  clear R2 H2 G2 b3 g3
  by_cases c : s2.2.1 = 0
  · rw [if_pos c] at HR
    have HL := Lib.hid (hAok c)
    clear hAok hAbad
    refine wp_region_noPanic ?_
    refine wp_region_held_drew (S := (fun w' => Blk w' w.heap.size 27 (brC zBr))) (by kernel_rfl) ?_ (fun hHeld => ?_)
    · exact R3
    refine wpAnyH_take (i := 0) (v := ?_) rfl (by kernel_rfl) (by kernel_rfl) (by kernel_rfl) (fun _ _ _ h => h) (Or.inl ⟨by rfl, ?_⟩) (by assumption) ?_
    rotate_left
    · (intro w hSw; (try dsimp only at hSw); go_simp; (try with_reducible rfl))
    (try simp only [Act.put, List.getElem_toArray, List.getElem_cons_zero, List.getElem_cons_succ, List.setIfInBounds_toArray, List.set_cons_zero, List.set_cons_succ])
    refine wpAnyH_take (i := 1) (v := ?_) rfl (by kernel_rfl) (by kernel_rfl) (by kernel_rfl) (fun _ _ _ h => h) (Or.inl ⟨by rfl, ?_⟩) (by assumption) ?_
    rotate_left
    · (intro w hSw; (try dsimp only at hSw); go_simp; (try with_reducible rfl))
    (try simp only [Act.put, List.getElem_toArray, List.getElem_cons_zero, List.getElem_cons_succ, List.setIfInBounds_toArray, List.set_cons_zero, List.set_cons_succ])
    refine wpAnyH_take (i := 2) (v := ?_) rfl (by kernel_rfl) (by kernel_rfl) (by kernel_rfl) (fun _ _ _ h => h) (Or.inl ⟨by rfl, ?_⟩) (by assumption) ?_
    rotate_left
    · (intro w hSw; (try dsimp only at hSw); go_simp; (try with_reducible rfl))
    (try simp only [Act.put, List.getElem_toArray, List.getElem_cons_zero, List.getElem_cons_succ, List.setIfInBounds_toArray, List.set_cons_zero, List.set_cons_succ])
    refine wpAnyH_ready (rs := [3]) (by kernel_rfl) (by simp) ?_
    refine AllReadyH.cons rfl (fun K hK => ?_) AllReadyH.nil
    simp only [List.getElem_toArray, List.getElem_cons_zero, List.getElem_cons_succ]
    go_simp
    with_reducible refine (N2.out _ H3.drew).mono ?_
    rintro e w4 ⟨rfl, H4, g4⟩
    have V4 := V3.drew.grown g4 (by simp; omega)
    have R4 := R3.drew.grown g4 (by simp; omega)
    have G4 := grown_same (rdT_drew G3) g4
    refine hK.out _ _ ?_ (fun hHeld => ?_)
    · exact R4
    clear hK K
    (try simp only [Act.put, List.getElem_toArray, List.getElem_cons_zero, List.getElem_cons_succ, List.setIfInBounds_toArray, List.set_cons_zero, List.set_cons_succ])
    refine wpAnyH_ready (rs := [4]) (by kernel_rfl) (by simp) ?_
    refine AllReadyH.cons rfl (fun K hK => ?_) AllReadyH.nil
    simp only [List.getElem_toArray, List.getElem_cons_zero, List.getElem_cons_succ]
    rw [if_pos (by rfl)]
    refine wp_copy_text ⟨t.toArray⟩ (brC ⟨(n : Int) / 4096 * 4096, (n : Int) % 4096, byX t⟩) 5 rfl rfl rfl V4 Tryd.underlying157 (by kernel_rfl) (by simp [ByteArray.size, HL.out]) (by simp [ByteArray.size, HL.out, brC]) ?_ (fun w5 V5 b5 g5 => ?_)
    · rw [byX_c6 t HL.out]; simp [ByteArray.size, HL.out, brC, c6]
    have H5 := H4.other V4 (by decide) (by decide) g5
    have R5 := R4.grown g5 (by simp; omega)
    have G5 := grown_own G4 g5 (by omega)
    refine hK.out _ _ ?_ (fun hHeld => ?_)
    · exact R5
    clear hK K
    (try simp only [Act.put, List.getElem_toArray, List.getElem_cons_zero, List.getElem_cons_succ, List.setIfInBounds_toArray, List.set_cons_zero, List.set_cons_succ])
    refine wpAnyH_done (by kernel_rfl) ?_ _
    refine NoPanic.normal ?_
    clear V4 R4 G4 H4 b5 g5 V3 R3 G3 H3 g4
    go_wp2_with fail
    refine (err_ok s2 _ H5 c).mono ?_
    rintro e w6 ⟨rfl, rfl⟩
    go_wp2_with (first
      | (refine load_blk (k := 0) 27 (brC ⟨(n : Int) / 4096 * 4096, (n : Int) % 4096, byX t⟩) (by rfl) rfl rfl V5 (by kernel_rfl) (by kernel_rfl) rfl ?_)
      | (refine store_blk (k := 0) 27 (.agg (brC ⟨(n : Int) / 4096 * 4096, (n : Int) % 4096, byX t⟩)) (brC ⟨(n : Int) / 4096 * 4096, (n : Int) % 4096, byX t⟩) (by rfl) rfl rfl rfl R5 (by kernel_rfl) (show (8 : Nat) ≤ 8 from Nat.le_refl 8) (by rfl) (st_whole _ _ rfl) ?_; intro w7 R7 b7 g7; have H7 := H5.other R5 (by decide) (by decide) g7; have G7 := grown_own G5 g7 (Nat.le_refl _)))
    exact bodyPost_ret (results_blk rfl rfl R7 (by kernel_rfl) (by kernel_rfl)) rfl ⟨by rw [HR.out], H7, G7⟩
  · rw [if_neg c] at HR
    have ht := hAbad c
    subst ht
    clear hAok hAbad
    refine wp_region_noPanic ?_
    refine wp_region_held_drew (S := (fun w' => Blk w' w.heap.size 27 (brC zBr))) (by kernel_rfl) ?_ (fun hHeld => ?_)
    · exact R3
    refine wpAnyH_take (i := 0) (v := ?_) rfl (by kernel_rfl) (by kernel_rfl) (by kernel_rfl) (fun _ _ _ h => h) (Or.inl ⟨by rfl, ?_⟩) (by assumption) ?_
    rotate_left
    · (intro w hSw; (try dsimp only at hSw); go_simp; (try with_reducible rfl))
    (try simp only [Act.put, List.getElem_toArray, List.getElem_cons_zero, List.getElem_cons_succ, List.setIfInBounds_toArray, List.set_cons_zero, List.set_cons_succ])
    refine wpAnyH_take (i := 1) (v := ?_) rfl (by kernel_rfl) (by kernel_rfl) (by kernel_rfl) (fun _ _ _ h => h) (Or.inl ⟨by rfl, ?_⟩) (by assumption) ?_
    rotate_left
    · (intro w hSw; (try dsimp only at hSw); go_simp; (try with_reducible rfl))
    (try simp only [Act.put, List.getElem_toArray, List.getElem_cons_zero, List.getElem_cons_succ, List.setIfInBounds_toArray, List.set_cons_zero, List.set_cons_succ])
    refine wpAnyH_take (i := 2) (v := ?_) rfl (by kernel_rfl) (by kernel_rfl) (by kernel_rfl) (fun _ _ _ h => h) (Or.inl ⟨by rfl, ?_⟩) (by assumption) ?_
    rotate_left
    · (intro w hSw; (try dsimp only at hSw); go_simp; (try with_reducible rfl))
    (try simp only [Act.put, List.getElem_toArray, List.getElem_cons_zero, List.getElem_cons_succ, List.setIfInBounds_toArray, List.set_cons_zero, List.set_cons_succ])
    refine wpAnyH_ready (rs := [3]) (by kernel_rfl) (by simp) ?_
    refine AllReadyH.cons rfl (fun K hK => ?_) AllReadyH.nil
    simp only [List.getElem_toArray, List.getElem_cons_zero, List.getElem_cons_succ]
    go_simp
    with_reducible refine (N2.out _ H3.drew).mono ?_
    rintro e w4 ⟨rfl, H4, g4⟩
    have V4 := V3.drew.grown g4 (by simp; omega)
    have R4 := R3.drew.grown g4 (by simp; omega)
    have G4 := grown_same (rdT_drew G3) g4
    refine hK.out _ _ ?_ (fun hHeld => ?_)
    · exact R4
    clear hK K
    (try simp only [Act.put, List.getElem_toArray, List.getElem_cons_zero, List.getElem_cons_succ, List.setIfInBounds_toArray, List.set_cons_zero, List.set_cons_succ])
    refine wpAnyH_ready (rs := [4]) (by kernel_rfl) (by simp) ?_
    refine AllReadyH.cons rfl (fun K hK => ?_) AllReadyH.nil
    simp only [List.getElem_toArray, List.getElem_cons_zero, List.getElem_cons_succ]
    rw [if_pos (by rfl)]
    refine wp_copy_text ⟨#[]⟩ (brC ⟨(n : Int) / 4096 * 4096, (n : Int) % 4096, z6⟩) 5 rfl rfl rfl V4 Tryd.underlying157 (by kernel_rfl) (by decide) (by simp [ByteArray.size, brC]) ?_ (fun w5 V5 b5 g5 => ?_)
    · simp [ByteArray.size, brC, Lib.byteCells]
    have H5 := H4.other V4 (by decide) (by decide) g5
    have R5 := R4.grown g5 (by simp; omega)
    have G5 := grown_own G4 g5 (by omega)
    refine hK.out _ _ ?_ (fun hHeld => ?_)
    · exact R5
    clear hK K
    (try simp only [Act.put, List.getElem_toArray, List.getElem_cons_zero, List.getElem_cons_succ, List.setIfInBounds_toArray, List.set_cons_zero, List.set_cons_succ])
    refine wpAnyH_done (by kernel_rfl) ?_ _
    refine NoPanic.normal ?_
    clear V4 R4 G4 H4 b5 g5 V3 R3 G3 H3 g4
    go_wp2_with fail
    refine (err_t s2 _ H5 c).mono ?_
    rintro e w6 ⟨rfl, hf6, k6⟩
    have H6 := H5.below k6
    have R6 := R5.kept k6
    have G6 := grown_belowT G5 k6
    go_wp2_with (first
      | (refine build_blk (t := 27) (brC zBr) (by rfl) rfl (by kernel_rfl) ?_)
      | (refine store_blk (k := 0) 27 (.agg (brC zBr)) (brC zBr) (by rfl) rfl rfl rfl R6 (by kernel_rfl) (show (8 : Nat) ≤ 8 from Nat.le_refl 8) (by rfl) (st_whole _ _ rfl) ?_; intro w7 R7 b7 g7; have H7 := H6.other R6 (by decide) (by decide) g7; have G7 := grown_own G6 g7 (Nat.le_refl _)))
    exact bodyPost_ret (results_blk rfl rfl R7 (by kernel_rfl) (by kernel_rfl)) rfl ⟨by rw [HR.out], H7, G7⟩

end Go.Proofs.YtdjljnpbnhampaaDoor

namespace Go.Proofs.YtdjljnpbnhampaaDoor
open Go.RowKit
attribute [local go_sem ↓] Go.wp_at_zero Go.wp_at_succ
set_option linter.unusedSimpArgs false
set_option linter.unusedVariables false
set_option maxRecDepth 100000


set_option maxHeartbeats 1600000 in
theorem sameR_one (x y : MvH) (w : World) (hx : IvIn w x.a x.x.ev) (hy : IvIn w y.a y.x.ev) (mx : x.x.ev.length ≤ maxLen) (my : y.x.ev.length ≤ maxLen) :
    Calls Tryd.prog 85 #[.agg (mvC x), .agg (mvC y)] w fun e w' => e = .returned (.bool (decide (x.x = y.x))) ∧ Below w.heap.size w w' := by
  obtain ⟨⟨a1, f1, e1⟩, p1, c1⟩ := x
  obtain ⟨⟨a2, f2, e2⟩, p2, c2⟩ := y
  simp only at *
  unfold mvC
  simp only
  have hb0 : Below w.heap.size w ((w.alloc (.cells #[.bool a1, .int .i64 f1, .slice p1 e1.length c1] 92)).alloc (.cells #[.bool a2, .int .i64 f2, .slice p2 e2.length c2] 92)) := ((Below.refl _ _).alloc (Nat.le_refl _) _).alloc (by simp) _
  have HE := Lib.hid (intEq_any p1 p2 c1 c2 e1 e2 _ (hx.below hb0) (hy.below hb0) mx my)
  have he : decide ((⟨a1, f1, e1⟩ : Mv) = ⟨a2, f2, e2⟩) = ((a1 == a2) && ((f1 == f2) && decide (e1 = e2))) := by
    by_cases q1 : a1 = a2
    · by_cases q2 : f1 = f2
      · subst q1 q2
        simp
      · rw [decide_eq_false (fun q => q2 (congrArg Mv.first q)), (beq_eq_false_iff_ne.2 q2)]
        simp
    · rw [decide_eq_false (fun q => q1 (congrArg Mv.all q)), (beq_eq_false_iff_ne.2 q1)]
      simp
  rw [he]
  clear he hx hy
  cases hq1 : (a1 == a2) with
  | false =>
    clear HE
    go_enter Tryd.func85, Tryd.ntmps85
    go_wp2
    go_ret
    exact ⟨by simp, hb0⟩
  | true =>
    cases hq2 : (f1 == f2) with
    | false =>
      clear HE
      go_enter Tryd.func85, Tryd.ntmps85
      go_wp2
      go_ret
      exact ⟨by simp, hb0⟩
    | true =>
      have hsz : ((w.alloc (.cells #[.bool a1, .int .i64 f1, .slice p1 e1.length c1] 92)).alloc (.cells #[.bool a2, .int .i64 f2, .slice p2 e2.length c2] 92)).heap.size = w.heap.size + 1 + 1 := by simp
      go_enter Tryd.func85, Tryd.ntmps85
      go_wp2_with fail
      refine HE.out.mono ?_
      rintro e w2 ⟨rfl, b2⟩
      have B2 := hb0.trans (b2.mono hb0.size)
      go_wp2
      go_ret
      exact ⟨by simp, B2⟩

set_option maxHeartbeats 3200000 in
theorem sameR_many (a1 a2 : Option Addr) (c1 c2 : Nat) (h1 h2 : List MvH) (w : World) (H1 : MvsIn w a1 h1) (H2 : MvsIn w a2 h2) (m1 : h1.length ≤ maxLen) (m2 : h2.length ≤ maxLen) :
    Calls Tryd.prog 84 #[.slice a1 h1.length c1, .slice a2 h2.length c2, .func (.func 85) #[] #[]] w fun e w' => e = .returned (.bool (decide (xs h1 = xs h2))) ∧ Below w.heap.size w w' := by
  have k1 : h1.length ≤ 9223372036854775807 := m1
  have k2 : h2.length ≤ 9223372036854775807 := m2
  clear m1 m2
  by_cases hl : h1.length = h2.length
  · have hl3 := Lib.hid hl.symm
    have HIN : Hid (∀ (k : Nat) (hk : k < h1.length), xs h1 = xs h2 → h1[k].x = (h2[k]'(by rw [hl3.out]; exact hk)).x) := fun k hk q => by
      have e1 := xs_get h1 k hk
      have e2 := xs_get h2 k (by rw [hl3.out]; exact hk)
      rw [← e1, ← e2]
      congr 1
    have HEX : Hid ((∀ (k : Nat) (hk : k < h1.length), h1[k].x = (h2[k]'(by rw [hl3.out]; exact hk)).x) → xs h1 = xs h2) := fun q => by
      apply List.ext_getElem
      · rw [xs_len, xs_len, hl]
      · intro k q1 q2
        rw [xs_len] at q1 q2
        rw [xs_get h1 k q1, xs_get h2 k q2]
        exact q k q1
    rw [← hl]
    clear hl k2
    go_enter Tryd.func84, Tryd.ntmps84
    go_wp2_with fail
    go_loopw [17] (fun i wr => ∃ k : Nat, k ≤ h1.length ∧ i = .int .i64 k ∧ (∀ (j : Nat) (hj : j < h1.length), j < k → h1[j].x = (h2[j]'(by rw [hl3.out]; exact hj)).x) ∧ Below w.heap.size w wr) (fun i _ => h1.length - (intOf i).toNat)
    case atStart => exact ⟨0, by omega, rfl, fun j hj q => by omega, Below.refl _ _⟩
    case round =>
      obtain ⟨k, hk, rfl, hall, Bk⟩ := hrel
      by_cases hlt : k < h1.length
      · have I1 := H1.below Bk
        have I2 := H2.below Bk
        have hlt2 : k < h2.length := by rw [hl3.out]; exact hlt
        obtain ⟨b1, o1, rfl, hb1, at1⟩ := I1.row.at hlt
        obtain ⟨b2, o2, rfl, hb2, at2⟩ := I2.row.at hlt2
        have q1 : (k : Int) < (h1.length : Int) := by omega
        have q2 : decide ((k : Int) < (h1.length : Int)) = true := decide_eq_true q1
        have q3 : (0 : Int) ≤ (k : Int) := by omega
        have q4 : IntKind.i64.wrap ((k : Int) + 1) = (k : Int) + 1 := by rw [IntKind.wrap_i64] <;> omega
        have HK1 := at1 k hlt
        have HK2 := at2 k hlt2
        obtain ⟨e1, cp1, cm1⟩ := I1.ev h1[k] (List.getElem_mem hlt)
        obtain ⟨e2, cp2, cm2⟩ := I2.ev h2[k] (List.getElem_mem hlt2)
        have HS : Hid (∀ W, Below wr.heap.size wr W → Calls Tryd.prog 85 #[.agg (mvC h1[k]), .agg (mvC h2[k])] W fun e w' => e = .returned (.bool (decide (h1[k].x = h2[k].x))) ∧ Below W.heap.size W w') := fun W hb => sameR_one h1[k] h2[k] W (e1.below hb) (e2.below hb) (Nat.le_trans cp1 cm1) (Nat.le_trans cp2 cm2)
        have hstep : Hid (h1[k].x = h2[k].x → ∀ (j : Nat) (hj : j < h1.length), j < k + 1 → h1[j].x = (h2[j]'(by rw [hl3.out]; exact hj)).x) := fun q j hj hj2 => by
          by_cases hjk : j = k
          · subst hjk; exact q
          · exact hall j hj (by omega)
        have hno : Hid (¬ h1[k].x = h2[k].x → decide (xs h1 = xs h2) = false) := fun q => decide_eq_false (fun r => q (HIN.out k hlt r))
        generalize h1[k] = x at *
        generalize h2[k] = y at *
        clear at1 at2 e1 e2 cp1 cm1 cp2 cm2 I1 I2 hall HIN HEX
        have k2 : (k : Int) < (h2.length : Int) := by have := hl3.out; omega
        have HA4 := Blk.new wr 92 (mvC zMvH)
        have b4 : Below wr.heap.size wr (wr.alloc (.cells (mvC zMvH) 92)) := (Below.refl _ _).alloc (Nat.le_refl _) _
        go_upto_region 6 with (first
          | (refine load_cells (B := b1) (k := o1 + k * 3) 92 (mvC x) (by rfl) rfl rfl HK1 (by kernel_rfl) (by kernel_rfl) ?_)
          | (refine alloc_blk 92 (mvC zMvH) (by rfl) rfl Tryd.mhZero ?_)
          | (refine store_blk (k := 0) 92 (.agg (mvC x)) (mvC x) (by rfl) rfl rfl rfl HA4 (by kernel_rfl) (show (3 : Nat) ≤ 3 from Nat.le_refl 3) (by rfl) (st_whole _ _ rfl) ?_; intro w5 HA5 b5 g5))
        have b15 := b4.trans b5
        have HK5 : CellsAt w5 b2 (o2 + k * 3) (mvC y) := HK2.below b15 hb2
        have HA6 := Blk.new w5 92 (mvC zMvH)
        have b6 : Below w5.heap.size w5 (w5.alloc (.cells (mvC zMvH) 92)) := (Below.refl _ _).alloc (Nat.le_refl _) _
        clear HA4 b4 b5 g5 HK1 HK2
        have hsw := Bk.size
        have hs5 : w.heap.size ≤ w5.heap.size := Nat.le_trans hsw b15.size
        have HS5 := Lib.hid (fun W (hb : Below w5.heap.size w5 W) => HS.out W (b15.trans (hb.mono b15.size)))
        have B5 := Bk.trans (b15.mono hsw)
        clear HS b15 Bk
        generalize wr.heap.size = G1 at *
        go_upto_region 7 with (first
          | (refine load_cells (B := b2) (k := o2 + k * 3) 92 (mvC y) (by rfl) rfl rfl HK5 (by kernel_rfl) (by kernel_rfl) ?_)
          | (refine alloc_blk 92 (mvC zMvH) (by rfl) rfl Tryd.mhZero ?_)
          | (refine store_blk (k := 0) 92 (.agg (mvC y)) (mvC y) (by rfl) rfl rfl rfl HA6 (by kernel_rfl) (show (3 : Nat) ≤ 3 from Nat.le_refl 3) (by rfl) (st_whole _ _ rfl) ?_; intro w7 HA7 b7 g7))
        have b57 := b6.trans b7
        have HA5' := HA5.kept b57
        have B7 := B5.trans (b57.mono hs5)
        have HS7 := Lib.hid (HS5.out w7 b57)
        have hs7 : w.heap.size ≤ w7.heap.size := Nat.le_trans hs5 b57.size
        clear HS5 B5 b57 b6 b7 g7 HA6 HK5
        generalize w5.heap.size = G2 at *
        go_wp2_with (first
          | (refine load_blk (k := 0) 92 (mvC x) (by rfl) rfl rfl HA5' (by kernel_rfl) (by kernel_rfl) rfl ?_)
          | (refine load_blk (k := 0) 92 (mvC y) (by rfl) rfl rfl HA7 (by kernel_rfl) (by kernel_rfl) rfl ?_))
        refine HS7.out.mono ?_
        rintro e w8 ⟨rfl, b8⟩
        have B8 := B7.trans (b8.mono hs7)
        by_cases hxy : x.x = y.x
        · rw [decide_eq_true hxy]
          have hst := Lib.hid (hstep.out hxy)
          clear hno hxy hstep
          go_wp2
          go_roundw
          case rel => exact ⟨k + 1, by omega, by go_num, hst.out, B8⟩
          case measure => simp [intOf]; omega
        · rw [decide_eq_false hxy]
          have hnn := Lib.hid (hno.out hxy)
          clear hno hxy hstep
          go_wp2
          go_ret
          exact ⟨by rw [hnn.out]; rfl, B8⟩
      · obtain rfl : k = h1.length := by omega
        have q2 : decide ((h1.length : Int) < (h1.length : Int)) = false := decide_eq_false (by omega)
        have hyes : Hid (decide (xs h1 = xs h2) = true) := decide_eq_true (HEX.out (fun j hj => hall j hj hj))
        clear hall HIN HEX
        go_wp2
        go_ret
        exact ⟨by rw [hyes.out]; rfl, Bk⟩
  · have d : ((h1.length : Int) != (h2.length : Int)) = true := by
      rw [bne_iff_ne]
      omega
    rw [decide_eq_false (fun q : xs h1 = xs h2 => hl (by rw [← xs_len h1, ← xs_len h2, q]))]
    clear hl
    go_enter Tryd.func84, Tryd.ntmps84
    go_wp2
    go_ret
    exact ⟨rfl, Below.refl _ _⟩

theorem sameR_any (a1 a2 : Option Addr) (c1 c2 : Nat) (h1 h2 : List MvH) (w : World) (H1 : MvsIn w a1 h1) (H2 : MvsIn w a2 h2) (m1 : h1.length ≤ maxLen) (m2 : h2.length ≤ maxLen) :
    Calls Tryd.prog 55 #[.slice a1 h1.length c1, .slice a2 h2.length c2] w fun e w' => e = .returned (.bool (decide (xs h1 = xs h2))) ∧ Below w.heap.size w w' := by
  have HX := Lib.hid (sameR_many a1 a2 c1 c2 h1 h2 w H1 H2 m1 m2)
  go_enter Tryd.func55, Tryd.ntmps55
  go_wp2_with fail
  refine HX.out.mono ?_
  rintro e w2 ⟨rfl, b2⟩
  go_wp2
  go_ret
  exact ⟨rfl, b2⟩

end Go.Proofs.YtdjljnpbnhampaaDoor

