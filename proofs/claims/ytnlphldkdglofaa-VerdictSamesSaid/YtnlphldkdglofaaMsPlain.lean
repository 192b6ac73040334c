/- 12.1, 12.2: messages of many trees plainly: nothing of the program. -/
import Derived.Test.YtnlphldkdglofaaBpPlain
namespace Go.Proofs.Ytnlphldkdglofaa
set_option linter.unusedVariables false

/-- What is told of one instance. -/
structure Ins where
  f : Fl
  root : Br
  cost : Int
  br : Int
  pt : Int
  hop : Int

/-- A message, but its instances. -/
structure Ms where
  base : Bp
  name : ByteArray
  rev : Int
  dig : ByteArray
  cost : Int
  br : Br
  hop : Int

def zIns : Ins := ⟨zFl, ⟨0, 0, z6b⟩, 0, 0, 0, 0⟩

instance : Inhabited Ins := ⟨zIns⟩

def zMs : Ms := ⟨zBp, ⟨#[]⟩, 0, ⟨#[]⟩, 0, ⟨0, 0, z6b⟩, 0⟩

def byIns (x : Ins) : Prop := byB x.root

def rkI (v : Int) : Bool := decide (0 ≤ v) && decide (v ≤ 15)

theorem rkI_all {v : Int} (h : rkI v = true) : 0 ≤ v ∧ v ≤ 15 := by simpa [rkI] using h

/-- What may be. -/
def okIns (x : Ins) : Bool := okF x.f && (okB x.root && (fitI 4 x.cost && (rkI x.br && (rkI x.pt && fitI 1 x.hop))))

def tz (s : ByteArray) : Bool := s.data.toList.getLast? == some 0

def okMs0 (m : Ms) : Bool := fitI 2 m.rev && (decide (m.dig.size = 16) && (fitI 4 m.cost && (okB m.br && fitI 1 m.hop)))

/-- The bytes of an instance. -/
def insL (x : Ins) : List UInt8 := putL (byF x.f) 1 ++ (packL x.root ++ (putL x.cost.toNat 4 ++ (putL (16 * x.br).toNat 1 ++ (putL (16 * x.pt).toNat 1 ++ putL x.hop.toNat 1))))

theorem insL_len (x : Ins) : (insL x).length = 16 := by simp [insL, putL_length, packL_len]

/-- The bytes of all. -/
def inssL (l : List Ins) : List UInt8 := l.flatMap insL

theorem inssL_len (l : List Ins) : (inssL l).length = 16 * l.length := by
  unfold inssL
  induction l with
  | nil => rfl
  | cons x l ih =>
    rw [List.flatMap_cons, List.length_append, insL_len, ih, List.length_cons]
    omega

theorem inssL_snoc (l : List Ins) (k : Nat) (h : k < l.length) : inssL (l.take (k + 1)) = inssL (l.take k) ++ insL l[k] := by
  unfold inssL
  rw [List.take_add_one, List.getElem?_eq_getElem h, List.flatMap_append]
  simp

def padL (s : ByteArray) : List UInt8 := s.data.toList ++ List.replicate (32 - s.size) 0

theorem padL_len (s : ByteArray) (h : s.size ≤ 32) : (padL s).length = 32 := by
  unfold padL
  rw [List.length_append, List.length_replicate]
  have : s.data.toList.length = s.size := by simp
  omega

def okRp (b : Bp) : Bool := okF b.f && okBd b

/-- What may be: a message with its instances. -/
def okMs (m : Ms) (l : List Ins) : Bool := (m.base.k == 3) && (okRp m.base && (decide (m.name.size ≤ 32) && (!tz m.name && (okMs0 m && (decide (l.length ≤ 64) && l.all okIns)))))

/-- Its bytes. -/
def headM (m : Ms) (n : Nat) : List UInt8 := [0, 0, 3, 2] ++ (bodyL m.base ++ ([0] ++ (putL (64 + 16 * n) 2 ++ ([0] ++ (padL m.name ++ (putL m.rev.toNat 2 ++ (m.dig.data.toList ++ (putL m.cost.toNat 4 ++ (packL m.br ++ putL m.hop.toNat 1)))))))))

def writeM (m : Ms) (l : List Ins) : List UInt8 := headM m l.length ++ inssL l

theorem okMs_all {m : Ms} {l : List Ins} (h : okMs m l = true) : m.base.k = 3 ∧ okRp m.base = true ∧ m.name.size ≤ 32 ∧ tz m.name = false ∧ fitI 2 m.rev = true ∧ m.dig.size = 16 ∧ fitI 4 m.cost = true ∧ okB m.br = true ∧ fitI 1 m.hop = true ∧ l.length ≤ 64 ∧ l.all okIns = true := by
  simp only [okMs, okMs0, Bool.and_eq_true, beq_iff_eq, decide_eq_true_eq, Bool.not_eq_true'] at h
  obtain ⟨h0, h1, h2, h3, ⟨h4, h5, h6, h7, h8⟩, h9, h10⟩ := h
  exact ⟨h0, h1, h2, h3, h4, h5, h6, h7, h8, h9, h10⟩

theorem headM_len (m : Ms) (n : Nat) (h1 : m.name.size ≤ 32) (h2 : m.dig.size = 16) : (headM m n).length = 102 := by
  have h3 : m.dig.data.toList.length = m.dig.size := by simp
  unfold headM
  simp only [List.length_append, putL_length, packL_len, bodyL_len, padL_len m.name h1, h3, h2, List.length_cons, List.length_nil]

theorem writeM_len (m : Ms) (l : List Ins) (h1 : m.name.size ≤ 32) (h2 : m.dig.size = 16) : (writeM m l).length = 102 + 16 * l.length := by
  unfold writeM
  rw [List.length_append, headM_len m _ h1 h2, inssL_len]

end Go.Proofs.Ytnlphldkdglofaa
