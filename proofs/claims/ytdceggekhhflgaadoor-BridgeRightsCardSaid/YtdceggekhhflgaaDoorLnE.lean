/- package learn: Learn, where it errs. -/
import Derived.Test.YtdceggekhhflgaaDoorLnB
namespace Go.Proofs.YtdceggekhhflgaaDoor
open Go.RowKit
open Go.Shelf
attribute [local go_sem ↓] Go.wp_at_zero Go.wp_at_succ
set_option linter.unusedSimpArgs false
set_option linter.unusedVariables false
set_option maxRecDepth 100000

def learnErr (last vid : Int) (a : Nat → Nat) (port now : Int) : Int :=
  if a 0 % 2 = 1 ∨ vid < 1 ∨ 4094 < vid ∨ port < 0 ∨ 8 ≤ port then 1 else if now < 0 ∨ 1099511627776 < now then 2 else if now < last then 10 else 0

def errV (e : Int) : Value := if e = 0 then .nilIface else .iface 28 (.int .i64 e)

/-- Four new variables. -/
def W4 (w : World) (t : Nat) (vid : Int) (A : Array Value) (now : Int) : World := (((w.alloc (.cells #[.pointer (some ⟨t, 0, none⟩)] 54)).alloc (.cells #[.int .i64 vid] 3)).alloc (.cells A 120)).alloc (.cells #[.int .i64 now] 3)

structure Box4 (w : World) (N t : Nat) (vid : Int) (A : Array Value) (now : Int) : Prop where
  t : Blk w N 54 #[.pointer (some ⟨t, 0, none⟩)]
  v : Blk w (N + 1) 3 #[.int .i64 vid]
  a : Blk w (N + 2) 120 A
  n : Blk w (N + 3) 3 #[.int .i64 now]

theorem Box4.kept {w w' : World} {N t : Nat} {vid : Int} {A : Array Value} {now : Int} (h : Box4 w N t vid A now) (hb : Below w.heap.size w w') : Box4 w' N t vid A now := ⟨h.t.kept hb, h.v.kept hb, h.a.kept hb, h.n.kept hb⟩

theorem Box4.lx {w w' : World} {N t B : Nat} {vid : Int} {A : Array Value} {now : Int} {TS : List TypeId} (h : Box4 w N t vid A now) (hx : Lx B TS w w') (h1 : 54 ∉ TS) (h2 : 3 ∉ TS) (h3 : 120 ∉ TS) : Box4 w' N t vid A now := ⟨hx.blk h.t h1, hx.blk h.v h2, hx.blk h.a h3, hx.blk h.n h2⟩

theorem Box4.drew {w : World} {N t : Nat} {vid : Int} {A : Array Value} {now : Int} (h : Box4 w N t vid A now) : Box4 w.drew N t vid A now := ⟨h.t, h.v, h.a, h.n⟩

theorem box4 (w : World) (t : Nat) (vid : Int) (A : Array Value) (now : Int) : Box4 (W4 w t vid A now) w.heap.size t vid A now ∧ Below w.heap.size w (W4 w t vid A now) := by
  have hz : ∀ (w : World) (o : Obj), (w.alloc o).heap.size = w.heap.size + 1 := fun w o => by simp
  have b1 := Blk.new w 54 #[.pointer (some ⟨t, 0, none⟩)]
  have b2 := Blk.new (w.alloc (.cells #[.pointer (some ⟨t, 0, none⟩)] 54)) 3 #[.int .i64 vid]
  have b3 := Blk.new ((w.alloc (.cells #[.pointer (some ⟨t, 0, none⟩)] 54)).alloc (.cells #[.int .i64 vid] 3)) 120 A
  have b4 := Blk.new (((w.alloc (.cells #[.pointer (some ⟨t, 0, none⟩)] 54)).alloc (.cells #[.int .i64 vid] 3)).alloc (.cells A 120)) 3 #[.int .i64 now]
  simp only [hz] at b2 b3 b4
  refine ⟨⟨((b1.alloc _).alloc _).alloc _, (b2.alloc _).alloc _, b3.alloc _, b4⟩, ?_⟩
  exact ((((Below.refl _ _).alloc (Nat.le_refl _) _).alloc (by simp) _).alloc (by simp; omega) _).alloc (by simp; omega) _

















end Go.Proofs.YtdceggekhhflgaaDoor
