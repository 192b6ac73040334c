/- Notes in memory. -/
import Derived.Test.YtgeiiengieonfaaDoorEnM
import Derived.Test.YtgeiiengieonfaaDoorCells
namespace Go.Proofs.YtgeiiengieonfaaDoor
open Go.RowKit
attribute [local go_sem ↓] Go.wp_at_zero Go.wp_at_succ
set_option linter.unusedSimpArgs false
set_option linter.unusedVariables false
set_option maxRecDepth 100000

structure Nt where
  what : Int
  vid : Int
  a : Nat → Nat
  port : Int
  now : Int

instance : Inhabited Nt := ⟨⟨0, 0, z6, 0, 0⟩⟩

def zNt : Nt := ⟨0, 0, z6, 0, 0⟩

def ntC (x : Nt) : Array Value := #[.int .i64 x.what, .int .i64 x.vid, .int .u8 (x.a 0), .int .u8 (x.a 1), .int .u8 (x.a 2), .int .u8 (x.a 3), .int .u8 (x.a 4), .int .u8 (x.a 5), .int .i64 x.port, .int .i64 x.now]

def NtAt (w : World) (b o : Nat) (l : List Nt) : Prop := ∀ j (hj : j < l.length), CellsAt w b (o + j * 10) (ntC l[j])

def NtIn (w : World) (a : Option Addr) (l : List Nt) : Prop := l = [] ∨ ∃ b o, a = some ⟨b, o, none⟩ ∧ b < w.heap.size ∧ NtAt w b o l

theorem NtAt.below {w w' : World} {b o D : Nat} {l : List Nt} (h : NtAt w b o l) (hb : Below D w w') (hB : b < D) : NtAt w' b o l := fun j hj => (h j hj).below hb hB

theorem NtIn.below {w w' : World} {a : Option Addr} {l : List Nt} (h : NtIn w a l) (hb : Below w.heap.size w w') : NtIn w' a l := by
  rcases h with h | ⟨b, o, h1, h2, h3⟩
  · exact Or.inl h
  · exact Or.inr ⟨b, o, h1, Nat.lt_of_lt_of_le h2 hb.size, fun j hj => (h3 j hj).below hb h2⟩

theorem NtIn.drew {w : World} {a : Option Addr} {l : List Nt} (h : NtIn w a l) : NtIn w.drew a l := h

theorem NtIn.at {w : World} {a : Option Addr} {l : List Nt} (h : NtIn w a l) {k : Nat} (hk : k < l.length) : ∃ b o, a = some ⟨b, o, none⟩ ∧ b < w.heap.size ∧ NtAt w b o l := by
  rcases h with rfl | h
  · simp at hk
  · exact h

/-- A list that lay somewhere ahead lies there still. -/
theorem NtIn.late {w0 w w' : World} {a : Option Addr} {l : List Nt} (h : NtIn w a l) (h0 : NtIn w0 a l) (hb : Below w0.heap.size w w') : NtIn w' a l := by
  rcases h with h | ⟨b, o, e1, e2, e3⟩
  · exact Or.inl h
  · rcases h0 with h0 | ⟨b0, o0, f1, f2, f3⟩
    · exact Or.inl h0
    · rw [e1] at f1
      cases f1
      exact Or.inr ⟨b, o, e1, Nat.lt_of_lt_of_le e2 hb.size, e3.below hb f2⟩

theorem Tryd.ntZero : (Tryd.prog.info? 47).map (·.zero) = some (some (.agg (ntC zNt))) := by kernel_rfl

end Go.Proofs.YtgeiiengieonfaaDoor
