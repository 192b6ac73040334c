/- A bridge, plainly. -/
import Derived.Test.YtdceggekhhflgaaEnM
import Derived.Test.YtdceggekhhflgaaTagParts
namespace Go.Proofs.Ytdceggekhhflgaa
open Go.RowKit
set_option linter.unusedSimpArgs false
set_option linter.unusedVariables false
set_option maxRecDepth 100000

/-- How a port is set. -/
structure Ps where
  pv : Int
  inn : List Int
  bare : List Int
  st : Int

instance : Inhabited Ps := ⟨⟨0, [], [], 0⟩⟩

def zPs : Ps := ⟨0, [], [], 0⟩

def vidB (n : Int) : Bool := decide (1 ≤ n) && decide (n ≤ 4094)

def stB (n : Int) : Bool := (n == 1) || ((n == 2) || (n == 3))

/-- The k-th is a VID, and greater than the one ahead. -/
def upAt (l : List Int) (k : Nat) : Bool := vidB (l.getD k 0) && (decide (k = 0) || decide (l.getD (k - 1) 0 < l.getD k 0))

def riseB (l : List Int) : Bool := (List.range l.length).all (upAt l)

def listB (l : List Int) : Bool := decide (l.length ≤ 64) && riseB l

def memB (l : List Int) (v : Int) : Bool := l.any fun x => x == v

def okPs (p : Ps) : Bool := vidB p.pv && (stB p.st && (listB p.inn && (listB p.bare && p.bare.all (memB p.inn))))

theorem riseB_false {l : List Int} {k : Nat} (hk : k < l.length) (h : upAt l k = false) : riseB l = false := by
  unfold riseB
  rw [List.all_eq_false]
  exact ⟨k, List.mem_range.2 hk, by simp [h]⟩

theorem riseB_true {l : List Int} (h : ∀ k, k < l.length → upAt l k = true) : riseB l = true := by
  unfold riseB
  rw [List.all_eq_true]
  intro k hk
  exact h k (List.mem_range.1 hk)

theorem upAt_at {l : List Int} {k : Nat} (hk : k < l.length) : upAt l k = (vidB l[k] && (decide (k = 0) || decide (l.getD (k - 1) 0 < l[k]))) := by
  unfold upAt
  rw [List.getD_eq_getElem?_getD, List.getElem?_eq_getElem hk]
  rfl

theorem memB_true {l : List Int} {k : Nat} (hk : k < l.length) {v : Int} (h : l[k] = v) : memB l v = true := by
  unfold memB
  rw [List.any_eq_true]
  exact ⟨l[k], List.getElem_mem hk, by simp [h]⟩

theorem memB_false {l : List Int} {v : Int} (h : ∀ k (hk : k < l.length), l[k] ≠ v) : memB l v = false := by
  unfold memB
  rw [List.any_eq_false]
  intro x hx
  obtain ⟨k, hk, rfl⟩ := List.getElem_of_mem hx
  simpa using h k hk

/-- Is there such a port? -/
def hasB (n : Nat) (port : Int) : Bool := decide (0 ≤ port) && decide (port < n)

def zTg : Tg := ⟨false, 0, false, 0⟩

/-- A frame's first tag; without tags one of noughts. -/
def firstT (l : List Tg) : Tg := l.headD zTg

def vidP (p : Ps) (t : Tg) : Int := let v := if t.v = 0 then p.pv else t.v; if t.s || !memB p.inn v then 0 else v

def vidM (ps : List Ps) (port : Int) (tl : List Tg) : Int := if hasB ps.length port then vidP (ps.getD port.toNat zPs) (firstT tl) else 0

/-- By which port a frame leaves, of those that there are. -/
def leavesB (at_ port vid : Int) (i : Nat) (p : Ps) : Bool := (((i : Int) != port) && (decide (at_ < 0) || ((i : Int) == at_))) && ((p.st == 3) && memB p.inn vid)

def outM (at_ port vid : Int) (ps : List Ps) : List Nat := (List.range ps.length).filter fun i => leavesB at_ port vid i (ps.getD i zPs)

/-- The tags that it has then. -/
def tagsOf (t : Tg) (vid : Int) (p : Ps) : List Tg := if memB p.bare vid then [] else [⟨false, t.p, t.d, vid⟩]

theorem range_succ_filter (p : Nat → Bool) (n : Nat) : (List.range (n + 1)).filter p = (List.range n).filter p ++ (if p n then [n] else []) := by
  rw [List.range_succ, List.filter_append]
  cases h : p n <;> simp [h]

end Go.Proofs.Ytdceggekhhflgaa
