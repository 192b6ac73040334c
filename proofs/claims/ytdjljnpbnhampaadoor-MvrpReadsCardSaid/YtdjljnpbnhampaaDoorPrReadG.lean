/- Worlds that grow. -/
import Derived.Test.YtdjljnpbnhampaaDoorRdT
import Derived.Test.YtdjljnpbnhampaaDoorCopyT
namespace Go.Proofs.YtdjljnpbnhampaaDoor
open Go.RowKit
attribute [local go_sem ↓] Go.wp_at_zero Go.wp_at_succ
set_option linter.unusedSimpArgs false
set_option linter.unusedVariables false
set_option maxRecDepth 100000

theorem grown_then {w w1 w2 : World} {r r' : Option Nat} (h1 : w.grownBy w1 r) (h2 : w1.grownBy w2 r') (h : ∀ k, k < w.heap.size → some k ≠ r → some k ≠ r') : w.grownBy w2 r :=
  ⟨h2.os.trans h1.os, h2.tape.trans h1.tape, h2.output.trans h1.output, Nat.le_trans h1.size h2.size, fun k hk hne => (h2.block k (Nat.lt_of_lt_of_le hk h1.size) (h k hk hne)).trans (h1.block k hk hne)⟩

theorem grown_same {w w1 w2 : World} {r : Option Nat} (h1 : w.grownBy w1 r) (h2 : w1.grownBy w2 r) : w.grownBy w2 r := grown_then h1 h2 (fun _ _ h => h)

theorem grown_own {w w1 w2 : World} {r : Option Nat} {B : Nat} (h1 : w.grownBy w1 r) (h2 : w1.grownBy w2 (some B)) (hB : w.heap.size ≤ B) : w.grownBy w2 r := grown_then h1 h2 (fun k hk _ e => by
  simp only [Option.some.injEq] at e
  omega)

theorem grown_belowT {w w1 w2 : World} {r : Option Nat} (h1 : w.grownBy w1 r) (h2 : Below w1.heap.size w1 w2) : w.grownBy w2 r :=
  ⟨h2.os.trans h1.os, h2.tape.trans h1.tape, h2.output.trans h1.output, Nat.le_trans h1.size h2.size, fun k hk hne => (h2.block k (Nat.lt_of_lt_of_le hk h1.size)).trans (h1.block k hk hne)⟩

theorem grown_belowA {B g : Nat} {a w w' : World} (h : Below B a w) (hg : w.grownBy w' (some g)) (hB : B ≤ w.heap.size) (hr : B ≤ g) : Below B a w' :=
  h.grown hg hB fun k e => by cases e; exact hr

theorem RdT.al {w : World} {g : Nat} {s : ByteArray} {off : Nat} {st : RSt} (h : RdT w g s off st) (o : Obj) : RdT (w.alloc o) g s off st := h.below ((Below.refl _ _).alloc (Nat.le_refl _) o)

theorem rdT_drew {w w1 : World} {r : Option Nat} (h : w.grownBy w1 r) : w.grownBy w1.drew r := ⟨h.os, h.tape, h.output, h.size, h.block⟩


end Go.Proofs.YtdjljnpbnhampaaDoor
