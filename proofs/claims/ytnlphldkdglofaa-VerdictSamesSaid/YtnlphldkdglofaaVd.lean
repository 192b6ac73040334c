/- Verdicts plainly. -/
import Derived.Test.YtnlphldkdglofaaChain
import Derived.Test.YtnlphldkdglofaaMs
import Derived.Test.YtnlphldkdglofaaLdV
import Derived.Test.YtnlphldkdglofaaLcE
import Derived.Test.YtnlphldkdglofaaAr
import Derived.Test.YtnlphldkdglofaaPaE
import Derived.Test.YtnlphldkdglofaaFrSame0
import Derived.Test.YtnlphldkdglofaaEqL
import Derived.Test.YtnlphldkdglofaaMvEqV
namespace Go.Proofs.Ytnlphldkdglofaa
open Go.RowKit
set_option linter.unusedVariables false
set_option maxRecDepth 100000

structure Vd where
  k : Int
  e : Int
  p : Int
  fr : Fr
  ar : Ar
  pa : Pa
  bp : Bp
  ms : Ms
  ia : Option Addr
  ic : Nat
  il : List Ins
  ld : Ld
  lq : LdA
  lc : Lc
  mr : Mk
  va : Option Addr
  vc : Nat
  vl : List MvH

def mstC (x : Vd) : Array Value := msC x.ms (.slice x.ia x.il.length x.ic)

def vdC (x : Vd) : Array Value := ([Value.int .i64 x.k, Value.int .i64 x.e, Value.int .i64 x.p] ++ ((frC x.fr).toList ++ ((arC x.ar).toList ++ ((paC x.pa).toList ++ ((bpC x.bp).toList ++ ((mstC x).toList ++ ((ldC x.ld x.lq).toList ++ ((lcC x.lc).toList ++ ((mkC x.mr).toList ++ [Value.slice x.va x.vl.length x.vc]))))))))).toArray

theorem Try.vdSize : (Try.prog.info? 61).map (·.size) = some 175 := by kernel_rfl

/-- What a verdict's lists are. -/
structure VdIn (w : World) (x : Vd) : Prop where
  ins : InIn w x.ia x.il
  ld : LdIn w x.ld x.lq
  mv : MvsIn w x.va x.vl
  len : x.il.length ≤ maxLen ∧ x.vl.length ≤ maxLen ∧ x.ld.de.length ≤ maxLen ∧ x.ld.ho.length ≤ maxLen ∧ x.ld.sy.length ≤ maxLen ∧ x.ld.ca.length ≤ maxLen ∧ x.ld.ma.length ≤ maxLen ∧ x.ld.og.length ≤ maxLen

theorem VdIn.below {w w' : World} {x : Vd} (h : VdIn w x) (hb : Below w.heap.size w w') : VdIn w' x := ⟨h.ins.below hb, h.ld.below hb, h.mv.below hb, h.len⟩

/-- The same, part by part. -/
def eqM (x y : Vd) : Bool := eqBp x.ms.base y.ms.base && ((x.ms.name.toList == y.ms.name.toList) && ((x.ms.rev == y.ms.rev) && ((x.ms.dig.toList == y.ms.dig.toList) && ((x.ms.cost == y.ms.cost) && (eqB x.ms.br y.ms.br && ((x.ms.hop == y.ms.hop) && eqL eqIn x.il y.il))))))

def eqD (x y : Vd) : Bool := eqNm x.ld.ch y.ld.ch && (eqNm x.ld.po y.ld.po && ((x.ld.tt == y.ld.tt) && (decide (x.ld.de = y.ld.de) && (decide (x.ld.ho = y.ld.ho) && (decide (x.ld.sy = y.ld.sy) && (eqL eqCp x.ld.ca y.ld.ca && (eqL eqMg x.ld.ma y.ld.ma && eqL eqOg x.ld.og y.ld.og)))))))

def eqVd (x y : Vd) : Bool := (x.k == y.k) && ((x.e == y.e) && ((x.p == y.p) && (sameB x.fr y.fr && (eqAr x.ar y.ar && (eqPa x.pa y.pa && (eqBp x.bp y.bp && (eqM x y && (eqD x y && (eqLc x.lc y.lc && (eqMk x.mr y.mr && decide (xs x.vl = xs y.vl)))))))))))

/-- In the reference's order. -/
def refVd (x y : Vd) : Bool := (x.k == y.k) && ((x.e == y.e) && ((x.p == y.p) && (sameB x.fr y.fr && (eqAr x.ar y.ar && (eqPa x.pa y.pa && (eqBp x.bp y.bp && (eqLc x.lc y.lc && (eqMk x.mr y.mr &&
  (eqBp x.ms.base y.ms.base && ((x.ms.name.toList == y.ms.name.toList) && ((x.ms.rev == y.ms.rev) && ((x.ms.dig.toList == y.ms.dig.toList) && ((x.ms.cost == y.ms.cost) && (eqB x.ms.br y.ms.br && ((x.ms.hop == y.ms.hop) && (eqL eqIn x.il y.il &&
  (eqNm x.ld.ch y.ld.ch && (eqNm x.ld.po y.ld.po && ((x.ld.tt == y.ld.tt) && (decide (x.ld.de = y.ld.de) && (decide (x.ld.ho = y.ld.ho) && (decide (x.ld.sy = y.ld.sy) && (eqL eqCp x.ld.ca y.ld.ca && (eqL eqMg x.ld.ma y.ld.ma && (eqL eqOg x.ld.og y.ld.og && decide (xs x.vl = xs y.vl))))))))))))))))))))))))))

theorem ref_eq (x y : Vd) : eqVd x y = refVd x y := by
  unfold eqVd refVd eqM eqD
  simp only [Bool.and_assoc]
  ac_rfl

theorem sameB_self (f : Fr) : sameB f f = true := by
  have ht := tagsEq_refl
  simp [sameB, eq6, ht]

theorem eqVd_self (x : Vd) : eqVd x x = true := by
  simp [eqVd, eqM, eqD, sameB_self, eqAr_refl, eqPa_refl, eqBp_self, eqB_self, eqLc_self, eqMk_self, eqL_same eqIn_self, eqL_same eqCp_same, eqL_same eqMg_same, eqL_same eqOg_same, eqNm_same]

section
variable {P : Program} {ops : Array Oper} {Q : Exit → Act → World → Prop} {a : Act} {w : World} {l : List Oper}

theorem chain_start {n : Nat} {p q : Value} (h2 : At a 2 p) (h3 : At a 3 q) (hn : a.tmps.size = n) (hd : a.defers = []) (h : ∀ a0, At a0 2 p → At a0 3 q → a0.tmps.size = n → a0.defers = [] → wpList P ops Q l a0 w) : wpList P ops Q l a w := h a h2 h3 hn hd
end

end Go.Proofs.Ytnlphldkdglofaa
