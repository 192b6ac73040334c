/- A frame, plainly; frame.innerHead, Head, inner, isType, leadsToSnap, upTo, isLlc, isSnap at every argument. -/
import Derived.Test.YtdceggekhhflgaaDoorTagStack
import Derived.BigQuiet
import Derived.Deep.QuietTactic
import Derived.Deep.RegionHeld3
import Derived.Deep.DrawnRows
import Derived.IntWalk
namespace Go.Proofs.YtdceggekhhflgaaDoor
open Go.RowKit

/-- A frame, plainly: addresses, tags and where they lie, numbers, body. -/
structure Fr where
  d : Nat → Nat
  s : Nat → Nat
  ta : Option Addr
  tl : List Tg
  tc : Nat
  k : Int
  t : Int
  da : Int
  sa : Int
  ct : Int
  ou : Int
  pi : Int
  bo : ByteArray

/-- Its cells. -/
def frC (f : Fr) : Array Value := #[.int .u8 (f.d 0), .int .u8 (f.d 1), .int .u8 (f.d 2), .int .u8 (f.d 3), .int .u8 (f.d 4), .int .u8 (f.d 5), .int .u8 (f.s 0), .int .u8 (f.s 1), .int .u8 (f.s 2), .int .u8 (f.s 3), .int .u8 (f.s 4), .int .u8 (f.s 5),
  .slice f.ta f.tl.length f.tc, .int .i64 f.k, .int .i64 f.t, .int .i64 f.da, .int .i64 f.sa, .int .i64 f.ct, .int .i64 f.ou, .int .i64 f.pi, .string f.bo]

def frV (f : Fr) : Value := .agg (frC f)

/-- A frame that the laws look at: its tags are there, and it is no heavy one. -/
structure FrIn (w : World) (f : Fr) : Prop where
  tags : TagsIn w f.ta f.tl
  few : f.tl.length ≤ 20
  cap : f.tl.length ≤ f.tc
  short : f.bo.size ≤ 3000

theorem FrIn.below {w w' : World} {f : Fr} (h : FrIn w f) (hb : Below w.heap.size w w') : FrIn w' f := ⟨h.tags.below hb, h.few, h.cap, h.short⟩



















def hdI (k : Int) : Int := if k = 2 then 3 else if k = 3 then 8 else 0

theorem hdI_le (k : Int) : 0 ≤ hdI k ∧ hdI k ≤ 8 := by unfold hdI; split <;> (try split) <;> omega



def typB (n : Int) : Bool := decide (1536 ≤ n) && (decide (n ≤ 65535) && ((n != 33024) && (n != 34984)))



def leadB (a b c : Int) : Bool := (a == 170) && ((b == 170) && (c == 3))



def upB (m : Int) (l : List Int) : Bool := l.all fun x => decide (0 ≤ x) && decide (x ≤ m)

theorem ints_new (W : World) (l : List Int) (T : TypeId) (j : Nat) (x : Int) (h : l[j]? = some x) : (W.alloc (.cells (l.map (Value.int .i64)).toArray T)).cell? ⟨W.heap.size, j, none⟩ = some (.int .i64 x) := by
  rw [World.cell?_alloc_at _ _ _ _ rfl]
  simp [h]







def llcB (f : Fr) : Bool := upB 255 [f.da, f.sa, f.ct] && !leadB f.da f.sa f.ct

def snapB (f : Fr) : Bool := upB 16777215 [f.ou] && upB 65535 [f.pi]





end Go.Proofs.YtdceggekhhflgaaDoor
