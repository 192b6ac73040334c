/- 9.1, 9.2: flags and BPDUs plainly: nothing of the program. -/
import Derived.Test.YtnlphldkdglofaaVecPack
import Derived.Test.YtnlphldkdglofaaFitP
namespace Go.Proofs.Ytnlphldkdglofaa
set_option linter.unusedVariables false

structure Fl where
  ch : Bool
  pr : Bool
  ro : Int
  le : Bool
  pa : Bool
  ag : Bool
  ac : Bool

structure Bp where
  k : Int
  f : Fl
  root : Br
  cost : Int
  snd : Br
  pp : Int
  pn : Int
  age : Int
  mx : Int
  hel : Int
  wai : Int

def zFl : Fl := ⟨false, false, 0, false, false, false, false⟩

/-- A Config's. -/
def cfF (f : Fl) : Fl := ⟨f.ch, false, 0, false, false, false, f.ac⟩

def okF (f : Fl) : Bool := decide (0 ≤ f.ro) && decide (f.ro ≤ 3)

/-- As a byte, and back. -/
def byF (f : Fl) : Nat := f.ch.toNat + 2 * f.pr.toNat + 4 * f.ro.toNat + 16 * f.le.toNat + 32 * f.pa.toNat + 64 * f.ag.toNat + 128 * f.ac.toNat

def ofF (n : Nat) : Fl := ⟨n % 2 == 1, n / 2 % 2 == 1, ((n / 4 % 4 : Nat) : Int), n / 16 % 2 == 1, n / 32 % 2 == 1, n / 64 % 2 == 1, n / 128 % 2 == 1⟩

theorem okF_all {f : Fl} (h : okF f = true) : 0 ≤ f.ro ∧ f.ro ≤ 3 := by simpa [okF] using h

theorem byF_lt (f : Fl) (h : okF f = true) : byF f < 256 := by
  obtain ⟨h0, h1⟩ := okF_all h
  have b := fun x : Bool => (show x.toNat ≤ 1 by cases x <;> decide)
  have := b f.ch; have := b f.pr; have := b f.le; have := b f.pa; have := b f.ag; have := b f.ac
  unfold byF
  omega

theorem okF_of (n : Nat) : okF (ofF n) = true := by
  have : n / 4 % 4 < 4 := Nat.mod_lt _ (by decide)
  have h0 : (0 : Int) ≤ ((n / 4 % 4 : Nat) : Int) := Int.natCast_nonneg _
  have h1 : ((n / 4 % 4 : Nat) : Int) ≤ 3 := by omega
  show (decide ((0 : Int) ≤ ((n / 4 % 4 : Nat) : Int)) && decide (((n / 4 % 4 : Nat) : Int) ≤ 3)) = true
  rw [decide_eq_true h0, decide_eq_true h1]
  rfl

theorem bit_nat (n : Nat) : (n % 2 == 1).toNat = n % 2 := by
  rcases Nat.mod_two_eq_zero_or_one n with h | h <;> rw [h] <;> rfl

theorem byF_of (n : Nat) (h : n < 256) : byF (ofF n) = n := by
  unfold byF ofF
  simp only [bit_nat, Int.toNat_natCast]
  omega

theorem ofF_by (f : Fl) (h : okF f = true) : ofF (byF f) = f := by
  obtain ⟨h0, h1⟩ := okF_all h
  obtain ⟨ch, pr, ro, le, pa, ag, ac⟩ := f
  obtain ⟨r, hr⟩ := Int.eq_ofNat_of_zero_le h0
  simp only at h1 hr
  subst hr
  have : r = 0 ∨ r = 1 ∨ r = 2 ∨ r = 3 := by omega
  unfold ofF byF
  simp only [Fl.mk.injEq]
  rcases this with rfl | rfl | rfl | rfl <;> cases ch <;> cases pr <;> cases le <;> cases pa <;> cases ag <;> cases ac <;> decide

/-- What a Config or Rapid message has beside its flags may be. -/
def okTm (b : Bp) : Bool := fitI 2 b.age && (fitI 2 b.mx && (fitI 2 b.hel && fitI 2 b.wai))

def okBd (b : Bp) : Bool := okB b.root && (okB b.snd && (okPt b.pp b.pn && (fitI 4 b.cost && okTm b)))

def z6b : Nat → Nat := fun _ => 0

def zBp : Bp := ⟨0, zFl, ⟨0, 0, z6b⟩, 0, ⟨0, 0, z6b⟩, 0, 0, 0, 0, 0, 0⟩

/-- The Notice. -/
def nBp : Bp := ⟨2, zFl, ⟨0, 0, z6b⟩, 0, ⟨0, 0, z6b⟩, 0, 0, 0, 0, 0, 0⟩

/-- Its bytes behind the head. -/
def pprL (p n : Int) : List UInt8 := putL (256 * p + n).toNat 2

def tmL (b : Bp) : List UInt8 := putL b.age.toNat 2 ++ (putL b.mx.toNat 2 ++ (putL b.hel.toNat 2 ++ putL b.wai.toNat 2))

def bodyL (b : Bp) : List UInt8 := putL (byF b.f) 1 ++ (packL b.root ++ (putL b.cost.toNat 4 ++ (packL b.snd ++ (pprL b.pp b.pn ++ tmL b))))

theorem bodyL_len (b : Bp) : (bodyL b).length = 31 := by simp [bodyL, tmL, pprL, putL_length, packL_len]

/-- Its bytes. -/
def writeL (b : Bp) : List UInt8 := if b.k = 1 then [0, 0, 0, 0] ++ bodyL b else if b.k = 3 then [0, 0, 2, 2] ++ (bodyL b ++ [0]) else [0, 0, 0, 128]

end Go.Proofs.Ytnlphldkdglofaa
