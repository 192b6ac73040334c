/- 11.1: spans plainly: nothing of the program. -/
import Derived.Test.YtlfeholphngilaaDoorHexT
namespace Go.Proofs.YtlfeholphngilaaDoor
set_option linter.unusedVariables false

structure Sp where
  f : Int
  t : Int
  i : Int
instance : Inhabited Sp := ⟨⟨0, 0, 0⟩⟩
def zSp : Sp := ⟨0, 0, 0⟩
def hasSp (x : Sp) (v : Int) : Bool := decide (x.f ≤ v) && decide (v ≤ x.t)
def instL : List Sp → Int → Int
  | [], _ => 0
  | x :: l, v => if hasSp x v = true then x.i else instL l v
def okSp (last : Int) (x : Sp) : Bool := decide (last < x.f) && (decide (x.f ≤ x.t) && (decide (x.t ≤ 4094) && (decide (0 ≤ x.i) && decide (x.i ≤ 64))))
def rightG : Int → List Sp → Bool
  | _, [] => true
  | last, x :: l => okSp last x && rightG x.t l
def rightL (l : List Sp) : Bool := rightG 0 l
theorem instL_drop (l : List Sp) (v : Int) (k : Nat) (hk : k < l.length) : instL (l.drop k) v = if hasSp l[k] v = true then l[k].i else instL (l.drop (k + 1)) v := by
  rw [List.drop_eq_getElem_cons hk]
  rfl
theorem rightG_drop (l : List Sp) (a : Int) (k : Nat) (hk : k < l.length) : rightG a (l.drop k) = (okSp a l[k] && rightG l[k].t (l.drop (k + 1))) := by
  rw [List.drop_eq_getElem_cons hk]
  rfl
/-- What stands ahead of the kth. -/
def lastSp (l : List Sp) (k : Nat) : Int := if k = 0 then 0 else (l.getD (k - 1) zSp).t
theorem lastSp_succ (l : List Sp) (k : Nat) (hk : k < l.length) : lastSp l (k + 1) = l[k].t := by
  unfold lastSp
  rw [if_neg (by omega), Nat.add_sub_cancel, List.getD_eq_getElem?_getD, List.getElem?_eq_getElem hk]
  rfl

end Go.Proofs.YtlfeholphngilaaDoor
