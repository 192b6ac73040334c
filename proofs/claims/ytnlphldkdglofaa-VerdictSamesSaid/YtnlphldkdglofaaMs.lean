/- Instances and messages of many trees as values. -/
import Derived.Test.YtnlphldkdglofaaMsPlain
import Derived.Test.YtnlphldkdglofaaBp
import Derived.Test.YtnlphldkdglofaaCells
import Derived.Test.YtnlphldkdglofaaBpFits
namespace Go.Proofs.Ytnlphldkdglofaa
open Go.RowKit
set_option linter.unusedVariables false
set_option maxRecDepth 100000

def inC (x : Ins) : Array Value := #[.bool x.f.ch, .bool x.f.pr, .int .i64 x.f.ro, .bool x.f.le, .bool x.f.pa, .bool x.f.ag, .bool x.f.ac,
  .int .i64 x.root.p, .int .i64 x.root.e, .int .u8 (x.root.a 0), .int .u8 (x.root.a 1), .int .u8 (x.root.a 2), .int .u8 (x.root.a 3), .int .u8 (x.root.a 4), .int .u8 (x.root.a 5), .int .i64 x.cost, .int .i64 x.br, .int .i64 x.pt, .int .i64 x.hop]

def msC (m : Ms) (v : Value) : Array Value := #[.int .i64 m.base.k, .bool m.base.f.ch, .bool m.base.f.pr, .int .i64 m.base.f.ro, .bool m.base.f.le, .bool m.base.f.pa, .bool m.base.f.ag, .bool m.base.f.ac, .int .i64 m.base.root.p, .int .i64 m.base.root.e, .int .u8 (m.base.root.a 0), .int .u8 (m.base.root.a 1), .int .u8 (m.base.root.a 2), .int .u8 (m.base.root.a 3), .int .u8 (m.base.root.a 4), .int .u8 (m.base.root.a 5), .int .i64 m.base.cost, .int .i64 m.base.snd.p, .int .i64 m.base.snd.e, .int .u8 (m.base.snd.a 0), .int .u8 (m.base.snd.a 1), .int .u8 (m.base.snd.a 2), .int .u8 (m.base.snd.a 3), .int .u8 (m.base.snd.a 4), .int .u8 (m.base.snd.a 5), .int .i64 m.base.pp, .int .i64 m.base.pn, .int .i64 m.base.age, .int .i64 m.base.mx, .int .i64 m.base.hel, .int .i64 m.base.wai,
  .string m.name, .int .i64 m.rev, .string m.dig, .int .i64 m.cost, .int .i64 m.br.p, .int .i64 m.br.e, .int .u8 (m.br.a 0), .int .u8 (m.br.a 1), .int .u8 (m.br.a 2), .int .u8 (m.br.a 3), .int .u8 (m.br.a 4), .int .u8 (m.br.a 5), .int .i64 m.hop, v]

theorem Try.inZero : (Try.prog.info? 76).map (·.zero) = some (some (.agg (inC zIns))) := by kernel_rfl

theorem Try.msZero : (Try.prog.info? 44).map (·.zero) = some (some (.agg (msC zMs (.slice none 0 0)))) := by kernel_rfl

def eqIn (a b : Ins) : Bool := eqFl a.f b.f && (eqB a.root b.root && ((a.cost == b.cost) && ((a.br == b.br) && ((a.pt == b.pt) && (a.hop == b.hop)))))

theorem run_eql_in (d : Nat) (a b : Ins) (w : World) : (Op.equalIn (d + 4) 76 (.agg (inC a)) (.agg (inC b))).run Try.prog w = .ok (eqIn a b) w := by
  have hs : Try.prog.stoodInHeld 76 = false := by kernel_rfl
  have hu : Try.prog.underlying 76 = some (.struct (Try.prog.fieldsOf 76)) := by kernel_rfl
  have hf : (Try.prog.fieldsOf 76).toList.map (fun f => (f.name == "_", f.type, f.offset)) = [(false, 35, 0), (false, 37, 7), (false, 3, 15), (false, 3, 16), (false, 3, 17), (false, 3, 18)] := by kernel_rfl
  rw [run_equalIn_agg w (d + 3) 76 _ _ hu hs]
  obtain ⟨f0, l0, h0, g0, hf⟩ := List.map_eq_cons_iff.1 hf
  obtain ⟨f1, l1, rfl, g1, hf⟩ := List.map_eq_cons_iff.1 hf
  obtain ⟨f2, l2, rfl, g2, hf⟩ := List.map_eq_cons_iff.1 hf
  obtain ⟨f3, l3, rfl, g3, hf⟩ := List.map_eq_cons_iff.1 hf
  obtain ⟨f4, l4, rfl, g4, hf⟩ := List.map_eq_cons_iff.1 hf
  obtain ⟨f5, l5, rfl, g5, hf⟩ := List.map_eq_cons_iff.1 hf
  obtain rfl := List.map_eq_nil_iff.1 hf
  rw [h0]
  have e0 := run_eql_fl (d + 0) a.f b.f w
  have e1 := run_eql_br (d + 0) a.root b.root w
  have e2 := run_equalIn_int (P := Try.prog) w (d + 2) 3 .i64 .i64 (a.cost) (b.cost) Try.underlying3
  have e3 := run_equalIn_int (P := Try.prog) w (d + 2) 3 .i64 .i64 (a.br) (b.br) Try.underlying3
  have e4 := run_equalIn_int (P := Try.prog) w (d + 2) 3 .i64 .i64 (a.pt) (b.pt) Try.underlying3
  have e5 := run_equalIn_int (P := Try.prog) w (d + 2) 3 .i64 .i64 (a.hop) (b.hop) Try.underlying3
  have h := run_eqFields_cons w (d + 3) (inC a) (inC b) f0 _ _ _ _ _ _ _ g0 (run_part_agg w _ _ 0 7 (flC a.f) (by kernel_rfl) (by kernel_rfl) rfl) (run_part_agg w _ _ 0 7 (flC b.f) (by kernel_rfl) (by kernel_rfl) rfl) e0
    (run_eqFields_cons w (d + 3) (inC a) (inC b) f1 _ _ _ _ _ _ _ g1 (run_part_agg w _ _ 7 8 (brC a.root) (by kernel_rfl) (by kernel_rfl) rfl) (run_part_agg w _ _ 7 8 (brC b.root) (by kernel_rfl) (by kernel_rfl) rfl) e1
    (run_eqFields_cons w (d + 3) (inC a) (inC b) f2 _ _ _ _ _ _ _ g2 (run_part_one w _ _ 15 _ (by kernel_rfl) rfl) (run_part_one w _ _ 15 _ (by kernel_rfl) rfl) e2
    (run_eqFields_cons w (d + 3) (inC a) (inC b) f3 _ _ _ _ _ _ _ g3 (run_part_one w _ _ 16 _ (by kernel_rfl) rfl) (run_part_one w _ _ 16 _ (by kernel_rfl) rfl) e3
    (run_eqFields_cons w (d + 3) (inC a) (inC b) f4 _ _ _ _ _ _ _ g4 (run_part_one w _ _ 17 _ (by kernel_rfl) rfl) (run_part_one w _ _ 17 _ (by kernel_rfl) rfl) e4
    (run_eqFields_cons w (d + 3) (inC a) (inC b) f5 _ _ _ _ _ _ _ g5 (run_part_one w _ _ 18 _ (by kernel_rfl) rfl) (run_part_one w _ _ 18 _ (by kernel_rfl) rfl) e5
    (run_eqFields_nil w (d + 3) _ _))))))
  rw [Bool.and_true] at h
  exact h

theorem eqIn_self (a : Ins) : eqIn a a = true := by simp [eqIn, eqFl_self, eqB_self]

def InAt (w : World) (b o : Nat) (l : List Ins) : Prop := ∀ j (hj : j < l.length), CellsAt w b (o + j * 19) (inC l[j])

def InIn (w : World) (a : Option Addr) (l : List Ins) : Prop := l = [] ∨ ∃ b o, a = some ⟨b, o, none⟩ ∧ b < w.heap.size ∧ InAt w b o l

theorem InAt.below {w w' : World} {b o D : Nat} {l : List Ins} (h : InAt w b o l) (hb : Below D w w') (hB : b < D) : InAt w' b o l := fun j hj => (h j hj).below hb hB

theorem InIn.below {w w' : World} {a : Option Addr} {l : List Ins} (h : InIn w a l) (hb : Below w.heap.size w w') : InIn w' a l := by
  rcases h with h | ⟨b, o, h1, h2, h3⟩
  · exact Or.inl h
  · exact Or.inr ⟨b, o, h1, Nat.lt_of_lt_of_le h2 hb.size, fun j hj => (h3 j hj).below hb h2⟩

theorem InIn.drew {w : World} {a : Option Addr} {l : List Ins} (h : InIn w a l) : InIn w.drew a l := h

theorem InIn.at {w : World} {a : Option Addr} {l : List Ins} (h : InIn w a l) {k : Nat} (hk : k < l.length) : ∃ b o, a = some ⟨b, o, none⟩ ∧ b < w.heap.size ∧ InAt w b o l := by
  rcases h with rfl | h
  · simp at hk
  · exact h

theorem okBp_three {b : Bp} (h : b.k = 3) : okBp b = okRp b := by
  unfold okBp okRp
  rw [if_neg (by omega), if_neg (by omega), if_pos h]

/-- Numbers of 64 bits. -/
def rgIn (x : Ins) : Prop := i64R x.cost ∧ i64R x.hop

def rgMs (m : Ms) : Prop := i64R m.rev ∧ i64R m.cost ∧ i64R m.hop

end Go.Proofs.Ytnlphldkdglofaa
