/- 14.1: what a station tells, plainly. -/
import Derived.Test.YtnlphldkdglofaaTlM
namespace Go.Proofs.Ytnlphldkdglofaa
set_option linter.unusedVariables false

structure Nm where
  su : Int
  id : ByteArray

instance : Inhabited Nm := ⟨⟨0, ⟨#[]⟩⟩⟩

def zNm : Nm := ⟨0, ⟨#[]⟩⟩

structure Cp where
  h : Int
  o : Int

instance : Inhabited Cp := ⟨⟨0, 0⟩⟩

def zCp : Cp := ⟨0, 0⟩

structure Mg where
  as : Int
  ai : ByteArray
  fs : Int
  fi : Int
  oid : ByteArray

instance : Inhabited Mg := ⟨⟨0, ⟨#[]⟩, 0, 0, ⟨#[]⟩⟩⟩

def zMg : Mg := ⟨0, ⟨#[]⟩, 0, 0, ⟨#[]⟩⟩

structure Og where
  ou : Int
  su : Int
  nf : ByteArray

instance : Inhabited Og := ⟨⟨0, 0, ⟨#[]⟩⟩⟩

def zOg : Og := ⟨0, 0, ⟨#[]⟩⟩

def wthn (x a b : Int) : Bool := decide (a ≤ x) && decide (x ≤ b)

/-- Which may be. -/
def okNm (x : Nm) : Bool := wthn x.su 1 7 && wthn x.id.size 1 255

def okSt (x : ByteArray) : Bool := decide ((x.size : Int) ≤ 255)

def okCp (x : Cp) : Bool := [x.h, x.o].all (fitI 2) && (bits .andNot .i64 x.o x.h == 0)

def okMg (x : Mg) : Bool := fitI 1 x.as && (wthn x.ai.size 1 31 && (wthn x.fs 1 3 && (fitI 4 x.fi && decide ((x.oid.size : Int) ≤ 128))))

def okOg (x : Og) : Bool := fitI 3 x.ou && (fitI 1 x.su && decide ((x.nf.size : Int) ≤ 507))

structure Ld where
  ch : Nm
  po : Nm
  tt : Int
  de : List ByteArray
  ho : List ByteArray
  sy : List ByteArray
  ca : List Cp
  ma : List Mg
  og : List Og

def zLd : Ld := ⟨zNm, zNm, 0, [], [], [], [], [], []⟩

def few {α : Type} (ok : α → Bool) (l : List α) : Bool := decide ((l.length : Int) ≤ 1) && l.all ok

def okLd (x : Ld) : Bool := okNm x.ch && (okNm x.po && (fitI 2 x.tt && (few okSt x.de && (few okSt x.ho && (few okSt x.sy && (few okCp x.ca && (decide ((x.ma.length : Int) ≤ 20) && (x.ma.all okMg && (decide ((x.og.length : Int) ≤ 20) && x.og.all okOg)))))))))

end Go.Proofs.Ytnlphldkdglofaa
