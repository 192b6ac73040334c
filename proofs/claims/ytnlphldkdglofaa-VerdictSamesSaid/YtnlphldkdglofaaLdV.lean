/- What a station tells, whole. -/
import Derived.Test.YtnlphldkdglofaaLdS
namespace Go.Proofs.Ytnlphldkdglofaa
open Go.RowKit
attribute [local go_sem ↓] Go.wp_at_zero Go.wp_at_succ
set_option linter.unusedSimpArgs false
set_option linter.unusedVariables false
set_option maxRecDepth 100000

/-- Where the lists lie, and their room. -/
structure LdA where
  de : Option Addr × Nat
  ho : Option Addr × Nat
  sy : Option Addr × Nat
  ca : Option Addr × Nat
  ma : Option Addr × Nat
  og : Option Addr × Nat

def zLdA : LdA := ⟨(none, 0), (none, 0), (none, 0), (none, 0), (none, 0), (none, 0)⟩

def ldC (x : Ld) (q : LdA) : Array Value := #[.int .i64 x.ch.su, .string x.ch.id, .int .i64 x.po.su, .string x.po.id, .int .i64 x.tt, .slice q.de.1 x.de.length q.de.2, .slice q.ho.1 x.ho.length q.ho.2, .slice q.sy.1 x.sy.length q.sy.2, .slice q.ca.1 x.ca.length q.ca.2, .slice q.ma.1 x.ma.length q.ma.2, .slice q.og.1 x.og.length q.og.2]

def LdIn (w : World) (x : Ld) (q : LdA) : Prop := StIn w q.de.1 x.de ∧ StIn w q.ho.1 x.ho ∧ StIn w q.sy.1 x.sy ∧ CpIn w q.ca.1 x.ca ∧ MgIn w q.ma.1 x.ma ∧ OgIn w q.og.1 x.og

theorem LdIn.below {w w' : World} {x : Ld} {q : LdA} (h : LdIn w x q) (hb : Below w.heap.size w w') : LdIn w' x q :=
  ⟨h.1.below hb, h.2.1.below hb, h.2.2.1.below hb, h.2.2.2.1.below hb, h.2.2.2.2.1.below hb, h.2.2.2.2.2.below hb⟩

theorem LdIn.late {w0 w w' : World} {x : Ld} {q : LdA} (h : LdIn w x q) (h0 : LdIn w0 x q) (hb : Below w0.heap.size w w') : LdIn w' x q :=
  ⟨h.1.late h0.1 hb, h.2.1.late h0.2.1 hb, h.2.2.1.late h0.2.2.1 hb, h.2.2.2.1.late h0.2.2.2.1 hb, h.2.2.2.2.1.late h0.2.2.2.2.1 hb, h.2.2.2.2.2.late h0.2.2.2.2.2 hb⟩

/-- Numbers of 64 bits, lists that a machine holds. -/
def rgLd (x : Ld) : Prop := rgNm x.ch ∧ rgNm x.po ∧ i64R x.tt ∧ (∀ y ∈ x.ca, rgCp y) ∧ (∀ y ∈ x.ma, rgMg y) ∧ (∀ y ∈ x.og, rgOg y) ∧ x.de.length ≤ maxLen ∧ x.ho.length ≤ maxLen ∧ x.sy.length ≤ maxLen ∧ x.ca.length ≤ maxLen ∧ x.ma.length ≤ maxLen ∧ x.og.length ≤ maxLen

theorem Try.ldZero : (Try.prog.info? 52).map (·.zero) = some (some (.agg (ldC zLd zLdA))) := by kernel_rfl

theorem Try.ldSize : (Try.prog.info? 52).map (·.size) = some 11 := by kernel_rfl

end Go.Proofs.Ytnlphldkdglofaa
