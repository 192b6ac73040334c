/- Texts one behind the other. errors.As at a target of type *api.Errno, and api.Tell: the Errno of nil, of an Errno, and of an *api.At. errors.As at a target of type *api.Errno: an Errno is found; an *api.At by its Unwrap. api.Tell, plain.Place, and what the laws make of them, at nil, at an Errno, and at an *api.At. switchyardlaw.placed: an error that is this one, at this place. Addresses as texts, and their order: plain lists, nothing of the program. Names and vectors as lists of numbers, and their order: plain lists, nothing of the program. The text of a bridge's name, and what is guessed from a text: plain lists, nothing of the program. (apart: prB, prB_all, okB) Names as bytes, and their order: plain lists, nothing of the program. 9.1, 9.2: flags and BPDUs plainly: nothing of the program. 12.1, 12.2: messages of many trees plainly: nothing of the program. Names and vectors as values. Names and vectors held against each other by ==. Flags and BPDUs as values. wire.Fits; bpdu.Flags, ofConfig. Instances and messages of many trees as values. Comparisons of empty lists. slices.Equal of lists of instances that are the same. bpdu.Flags, ofConfig; the closures of Of and FlagsOf. bpdu.Of at every byte; the reference's FlagsOf. -/
import Derived.Test.YtocgnbbnaamjjaaGreatDoorLrK1
import Derived.Test.YtocgnbbnaamjjaaGreatDoorLrK11
import Derived.Test.YtocgnbbnaamjjaaGreatDoorLrK12
import Derived.Test.YtocgnbbnaamjjaaGreatDoorLrK5
import Derived.LaidEql
import Derived.Stop.Asserts
import Derived.RowKitTokens
import Derived.Lib.Hide
import Derived.Lib.Bytealg
import GoSem.Op.String
import Derived.Deep.RegionHeld3
namespace Go.Proofs.YtocgnbbnaamjjaaGreatDoor
open Go.RowKit Go.Extern.Stop Go.Stop Go.Extern

/-! Closed facts on the entries for internal/reflectlite at this program's types. -/

theorem Tryz.rlValueOfPE (t : Addr) (w : World) : (ReflectliteValue.unpack (.iface 164 (.pointer (some t)))).run Tryz.prog w
    = .ok (.agg #[.pointer (some ⟨4, 164, none⟩), .pointer (some ⟨w.heap.size, 0, none⟩), .int .u64 150]) (w.alloc (.cells #[.pointer (some t)] 164)) := by kernel_rfl

theorem Tryz.rlTypePE (a : Addr) (w : World) : (ReflectliteValue.methodAny (ReflectliteValue.valueError "reflectlite.Value.Type" 0) (fun t _ _ _ => ReflectliteType.toType t) #[.agg #[.pointer (some ⟨4, 164, none⟩), .pointer (some a), .int .u64 150]]).run Tryz.prog w
    = .ok (.iface 195 (.agg #[.pointer (some ⟨4, 164, none⟩)])) w := by kernel_rfl

theorem Tryz.rlMethodKind (h : Value) (w : World) : (Go.method 342 195 (.agg #[h]) "Kind").run Tryz.prog w = .ok (106, h) w := by kernel_rfl

theorem Tryz.rlKindPE (w : World) : ((ReflectliteType.abiMethod fun t => (fun a : Nat => Value.int IntKind.u8 (a : Int)) <$> Rtype.kind t) #[.pointer (some ⟨4, 164, none⟩)]).run Tryz.prog w = .ok (.int .u8 22) w := by kernel_rfl

theorem Tryz.rlKindE (w : World) : ((ReflectliteType.abiMethod fun t => (fun a : Nat => Value.int IntKind.u8 (a : Int)) <$> Rtype.kind t) #[.pointer (some ⟨4, 30, none⟩)]).run Tryz.prog w = .ok (.int .u8 2) w := by kernel_rfl

theorem Tryz.rlPartsPE (a : Addr) (w : World) : (ReflectliteValue.parts (.agg #[.pointer (some ⟨4, 164, none⟩), .pointer (some a), .int .u64 150])).run Tryz.prog w = .ok (some (164, a, 150)) w := by kernel_rfl

theorem Tryz.rlIsNilPE (a p : Addr) (W : World) (ha : W.cell? a = some (.pointer (some p))) :
    (ReflectliteValue.method (ReflectliteValue.valueError "reflectlite.Value.IsNil" 0) ReflectliteValue.isNil #[.agg #[.pointer (some ⟨4, 164, none⟩), .pointer (some a), .int .u64 150]]).run Tryz.prog W = .ok (.bool false) W := by
  change Sem.run _ (ReflectliteValue.parts (.agg #[.pointer (some ⟨4, 164, none⟩), .pointer (some a), .int .u64 150]) >>= _) _ = _
  simp only [Sem.run_bind, Tryz.rlPartsPE, Result.andThen]
  simp [ReflectliteValue.isNil, loadVar, isAgg, underlying, Tryz.underlying164, ha, Result.andThen]

theorem Tryz.rlMethodElem (h : Value) (w : World) : (Go.method 342 195 (.agg #[h]) "Elem").run Tryz.prog w = .ok (118, .agg #[h]) w := by kernel_rfl

theorem Tryz.rlMethodImplements (h : Value) (w : World) : (Go.method 342 195 (.agg #[h]) "Implements").run Tryz.prog w = .ok (119, .agg #[h]) w := by kernel_rfl

theorem Tryz.rlMethodAssignableTo (h : Value) (w : World) : (Go.method 342 195 (.agg #[h]) "AssignableTo").run Tryz.prog w = .ok (116, .agg #[h]) w := by kernel_rfl

theorem Tryz.rlElemPE (w : World) : (ReflectliteType.method ReflectliteType.elem #[.agg #[.pointer (some ⟨4, 164, none⟩)]]).run Tryz.prog w = .ok (.iface 195 (.agg #[.pointer (some ⟨4, 30, none⟩)])) w := by kernel_rfl

theorem Tryz.rlImplementsE (w : World) : (ReflectliteType.relation "Implements" ReflectliteType.implements_ #[.agg #[.pointer (some ⟨4, 30, none⟩)], .iface 195 (.agg #[.pointer (some ⟨4, 36, none⟩)])]).run Tryz.prog w = .ok (.bool true) w := by kernel_rfl

theorem Tryz.rlTypeOfE (v : Value) (w : World) : (ReflectliteType.typeOf #[.iface 30 v]).run Tryz.prog w = .ok (.iface 195 (.agg #[.pointer (some ⟨4, 30, none⟩)])) w := by kernel_rfl

theorem Tryz.rlTypeOfA (v : Value) (w : World) : (ReflectliteType.typeOf #[.iface 97 v]).run Tryz.prog w = .ok (.iface 195 (.agg #[.pointer (some ⟨4, 97, none⟩)])) w := by kernel_rfl

theorem Tryz.rlAssignableEE (w : World) : (ReflectliteType.relation "AssignableTo" ReflectliteType.assignableTo #[.agg #[.pointer (some ⟨4, 30, none⟩)], .iface 195 (.agg #[.pointer (some ⟨4, 30, none⟩)])]).run Tryz.prog w = .ok (.bool true) w := by kernel_rfl

theorem Tryz.rlAssignableAE (w : World) : (ReflectliteType.relation "AssignableTo" ReflectliteType.assignableTo #[.agg #[.pointer (some ⟨4, 97, none⟩)], .iface 195 (.agg #[.pointer (some ⟨4, 30, none⟩)])]).run Tryz.prog w = .ok (.bool false) w := by kernel_rfl

theorem Tryz.rlValueOfE (x : Int) (w : World) : (ReflectliteValue.unpack (.iface 30 (.int .i64 x))).run Tryz.prog w
    = .ok (.agg #[.pointer (some ⟨4, 30, none⟩), .pointer (some ⟨w.heap.size, 0, none⟩), .int .u64 130]) (w.alloc (.cells #[.int .i64 x] 30)) := by kernel_rfl

theorem Tryz.rlElemOfPE (w : World) : (Rtype.elem? 164).run Tryz.prog w = .ok (some 30) w := by kernel_rfl

theorem Tryz.rlMkE (p : Addr) (w : World) : (ReflectliteValue.mk 30 p ReflectliteValue.flagAddr).run Tryz.prog w = .ok (.agg #[.pointer (some ⟨4, 30, none⟩), .pointer (some p), .int .u64 386]) w := by kernel_rfl

theorem Tryz.rlElemVPE (a p : Addr) (W : World) (ha : W.cell? a = some (.pointer (some p))) :
    (ReflectliteValue.method (ReflectliteValue.valueError "reflectlite.Value.Elem" 0) ReflectliteValue.elem #[.agg #[.pointer (some ⟨4, 164, none⟩), .pointer (some a), .int .u64 150]]).run Tryz.prog W
      = .ok (.agg #[.pointer (some ⟨4, 30, none⟩), .pointer (some p), .int .u64 386]) W := by
  change Sem.run _ (ReflectliteValue.parts (.agg #[.pointer (some ⟨4, 164, none⟩), .pointer (some a), .int .u64 150]) >>= _) _ = _
  simp only [Sem.run_bind, Tryz.rlPartsPE, Result.andThen]
  simp [ReflectliteValue.elem, loadVar, isAgg, underlying, Tryz.underlying164, ha, Result.andThen, Tryz.rlElemOfPE, Tryz.rlMkE]

theorem Tryz.rlPartsEa (a : Addr) (w : World) : (ReflectliteValue.parts (.agg #[.pointer (some ⟨4, 30, none⟩), .pointer (some a), .int .u64 386])).run Tryz.prog w = .ok (some (30, a, 386)) w := by kernel_rfl

theorem Tryz.rlPartsE (a : Addr) (w : World) : (ReflectliteValue.parts (.agg #[.pointer (some ⟨4, 30, none⟩), .pointer (some a), .int .u64 130])).run Tryz.prog w = .ok (some (30, a, 130)) w := by kernel_rfl

theorem Tryz.rlDirectE (w : World) : (Rtype.directlyAssignable 30 30).run Tryz.prog w = .ok true w := by kernel_rfl

theorem Tryz.rlSizeE (w : World) : (sizeOf 30).run Tryz.prog w = .ok 1 w := by kernel_rfl

theorem Tryz.rlSetE (ta b : Addr) (x : Int) (old : Value) (W : World) (hb : W.cell? b = some (.int .i64 x)) (ht : W.cell? ta = some old) (hf : W.frozen? ta = false) :
    (ReflectliteValue.set #[.agg #[.pointer (some ⟨4, 30, none⟩), .pointer (some ta), .int .u64 386], .agg #[.pointer (some ⟨4, 30, none⟩), .pointer (some b), .int .u64 130]]).run Tryz.prog W
      = .ok (.tuple #[]) (W.setCell ta (.int .i64 x)) := by
  change Sem.run _ (ReflectliteValue.parts (.agg #[.pointer (some ⟨4, 30, none⟩), .pointer (some ta), .int .u64 386]) >>= fun _ => ReflectliteValue.parts (.agg #[.pointer (some ⟨4, 30, none⟩), .pointer (some b), .int .u64 130]) >>= _) _ = _
  simp only [Sem.run_bind, Tryz.rlPartsEa, Tryz.rlPartsE, Result.andThen]
  simp [ReflectliteValue.flagAddr, loadVar, isAgg, underlying, Tryz.underlying30, hb, Result.andThen, Tryz.rlDirectE, storeVar, Value.cells, storeCells, Addr.add]
  rw [run_store Tryz.prog W ta _ _ (by rfl)]
  simp [ht, hf]

end Go.Proofs.YtocgnbbnaamjjaaGreatDoor

namespace Go.Proofs.YtocgnbbnaamjjaaGreatDoor
open Go.RowKit Go.Extern.Stop Go.Stop Go.Extern

/-- The variable errors.errorType holds the type error's handle. -/
def HasErr (w : World) : Prop := w.cell? ⟨0, 0, none⟩ = some (.iface 195 (.agg #[.pointer (some ⟨4, 36, none⟩)]))

theorem HasErr.lt {w : World} (h : HasErr w) : 0 < w.heap.size := by
  rcases Nat.lt_or_ge 0 w.heap.size with h' | h'
  · exact h'
  · have : w.cell? ⟨0, 0, none⟩ = none := by simp [World.cell?, Array.getElem?_eq_none h']
    unfold HasErr at h
    rw [this] at h
    cases h

theorem HasErr.alloc {w : World} (h : HasErr w) (o : Obj) : HasErr (w.alloc o) := (World.cell?_alloc_lt _ _ _ h.lt).trans h

theorem HasErr.below {w w' : World} (h : HasErr w) (hb : Below w.heap.size w w') : HasErr w' := (hb.cell (p := ⟨0, 0, none⟩) h.lt).trans h

theorem as_nil (t : Value) (w : World) :
    Calls Tryz.prog 65 #[.nilIface, t] w fun e w' => e = .returned (.bool false) ∧ w' = w := by
  go_enter Tryz.func65, Tryz.ntmps65
  go_wp2
  go_ret
  exact ⟨rfl, rfl⟩

set_option maxHeartbeats 4000000 in
/-- errors.As, the error is an Errno: it is found. -/
theorem as_errno (x : Int) (t : Addr) (old : Value) (w : World) (hg : HasErr w) (ht0 : w.cell? t = some old) (hf0 : w.frozen? t = false) :
    Calls Tryz.prog 65 #[.iface 30 (.int .i64 x), .iface 164 (.pointer (some t))] w fun ev w' => ev = .returned (.bool true) ∧ ∃ w1, Below w.heap.size w w1 ∧ w' = w1.setCell t (.int .i64 x) := by
  have hVO := @run_callFunc_extern Tryz.prog 73 _ (fun args => ReflectliteValue.unpack (args.getD 0 (.tuple #[]))) Tryz.func73 (by kernel_rfl) (by kernel_rfl) (by kernel_rfl) (by kernel_rfl)
  have hTy := @run_callFunc_extern Tryz.prog 74 _ (ReflectliteValue.methodAny (ReflectliteValue.valueError "reflectlite.Value.Type" 0) (fun t _ _ _ => ReflectliteType.toType t)) Tryz.func74 (by kernel_rfl) (by kernel_rfl) (by kernel_rfl) (by kernel_rfl)
  have hIN := @run_callFunc_extern Tryz.prog 75 _ (ReflectliteValue.method (ReflectliteValue.valueError "reflectlite.Value.IsNil" 0) ReflectliteValue.isNil) Tryz.func75 (by kernel_rfl) (by kernel_rfl) (by kernel_rfl) (by kernel_rfl)
  have hKi := @run_callFunc_extern Tryz.prog 106 _ (ReflectliteType.abiMethod fun t => do pure (.int .u8 (← Rtype.kind t))) Tryz.func106 (by kernel_rfl) (by kernel_rfl) (by kernel_rfl) (by kernel_rfl)
  have hEl := @run_callFunc_extern Tryz.prog 118 _ (ReflectliteType.method ReflectliteType.elem) Tryz.func118 (by kernel_rfl) (by kernel_rfl) (by kernel_rfl) (by kernel_rfl)
  have hIm := @run_callFunc_extern Tryz.prog 119 _ (ReflectliteType.relation "Implements" ReflectliteType.implements_) Tryz.func119 (by kernel_rfl) (by kernel_rfl) (by kernel_rfl) (by kernel_rfl)
  have hTO := @run_callFunc_extern Tryz.prog 81 _ ReflectliteType.typeOf Tryz.func81 (by kernel_rfl) (by kernel_rfl) (by kernel_rfl) (by kernel_rfl)
  have hAT := @run_callFunc_extern Tryz.prog 116 _ (ReflectliteType.relation "AssignableTo" ReflectliteType.assignableTo) Tryz.func116 (by kernel_rfl) (by kernel_rfl) (by kernel_rfl) (by kernel_rfl)
  have hEV := @run_callFunc_extern Tryz.prog 82 _ (ReflectliteValue.method (ReflectliteValue.valueError "reflectlite.Value.Elem" 0) ReflectliteValue.elem) Tryz.func82 (by kernel_rfl) (by kernel_rfl) (by kernel_rfl) (by kernel_rfl)
  have hSe := @run_callFunc_extern Tryz.prog 83 _ ReflectliteValue.set Tryz.func83 (by kernel_rfl) (by kernel_rfl) (by kernel_rfl) (by kernel_rfl)
  have q1 := Tryz.rlValueOfPE
  have q2 := Tryz.rlTypePE
  have q3 := Tryz.rlMethodKind
  have q4 := Tryz.rlKindPE
  have q5 := Tryz.rlKindE
  have q6 := Tryz.rlMethodElem
  have q7 := Tryz.rlMethodImplements
  have q8 := Tryz.rlMethodAssignableTo
  have q9 := Tryz.rlElemPE
  have q10 := Tryz.rlImplementsE
  have q11 := Tryz.rlTypeOfE
  have q12 := Tryz.rlAssignableEE
  have q13 := Tryz.rlValueOfE
  have n8 := Tryz.rlIsNilPE ⟨w.heap.size, 0, none⟩ t ((w.alloc (.cells #[.pointer (some t)] 164)).alloc (.cells #[.pointer (some ⟨4, 164, none⟩), .pointer (some ⟨w.heap.size, 0, none⟩), .int .u64 150] 179)) (by simp)
  have hg2 : ((w.alloc (.cells #[.pointer (some t)] 164)).alloc (.cells #[.pointer (some ⟨4, 164, none⟩), .pointer (some ⟨w.heap.size, 0, none⟩), .int .u64 150] 179)).cell? ⟨0, 0, none⟩ = some (.iface 195 (.agg #[.pointer (some ⟨4, 36, none⟩)])) := (hg.alloc _).alloc _
  have htl : t.block < w.heap.size := by
    rcases Nat.lt_or_ge t.block w.heap.size with h | h
    · exact h
    · simp [World.cell?, Array.getElem?_eq_none h] at ht0
  have el := Tryz.rlElemVPE ⟨w.heap.size, 0, none⟩ t (((w.alloc (.cells #[.pointer (some t)] 164)).alloc (.cells #[.pointer (some ⟨4, 164, none⟩), .pointer (some ⟨w.heap.size, 0, none⟩), .int .u64 150] 179)).alloc (.cells #[.pointer (some ⟨4, 164, none⟩), .pointer (some ⟨w.heap.size, 0, none⟩), .int .u64 150] 179)) (by rw [World.cell?_alloc_lt _ _ ⟨w.heap.size, 0, none⟩ (by simp; omega)]; simp)
  have st := Tryz.rlSetE t ⟨w.heap.size + 1 + 1 + 1, 0, none⟩ x old ((((w.alloc (.cells #[.pointer (some t)] 164)).alloc (.cells #[.pointer (some ⟨4, 164, none⟩), .pointer (some ⟨w.heap.size, 0, none⟩), .int .u64 150] 179)).alloc (.cells #[.pointer (some ⟨4, 164, none⟩), .pointer (some ⟨w.heap.size, 0, none⟩), .int .u64 150] 179)).alloc (.cells #[.int .i64 x] 30))
    (by rw [World.cell?_alloc_at _ _ _ _ (by simp)]; rfl)
    (by rw [World.cell?_alloc_lt _ _ t (by simp; omega), World.cell?_alloc_lt _ _ t (by simp; omega), World.cell?_alloc_lt _ _ t (by simp; omega), World.cell?_alloc_lt _ _ t htl]; exact ht0)
    (by rw [World.frozen?_alloc_old _ _ t (by simp; omega), World.frozen?_alloc_old _ _ t (by simp; omega), World.frozen?_alloc_old _ _ t (by simp; omega), World.frozen?_alloc_old _ _ t (Nat.ne_of_lt htl)]; exact hf0)
  have hB : Below w.heap.size w ((((w.alloc (.cells #[.pointer (some t)] 164)).alloc (.cells #[.pointer (some ⟨4, 164, none⟩), .pointer (some ⟨w.heap.size, 0, none⟩), .int .u64 150] 179)).alloc (.cells #[.pointer (some ⟨4, 164, none⟩), .pointer (some ⟨w.heap.size, 0, none⟩), .int .u64 150] 179)).alloc (.cells #[.int .i64 x] 30)) := ((((Below.refl _ _).alloc (Nat.le_refl _) _).alloc (by simp) _).alloc (by simp; omega) _).alloc (by simp; omega) _
  have HB := Lib.hid hB
  clear hB
  go_enter Tryz.func65, Tryz.ntmps65
  go_wp2
  refine wp_loop_rounds 1 ?_
  rw [rounds_succ]
  go_wp2
  go_ret
  exact ⟨rfl, _, HB.out, rfl⟩
/-! What is asked of an *api.At: it has no As, it has an Unwrap. -/

theorem Tryz.noAsA (v : Value) (xT : TypeId) (w : World) : (Instr.typeAssert (.iface 97 v) xT 200 true).run Tryz.prog w = .ok (.tuple #[.nilIface, .bool false]) w :=
  run_typeAssert_lacksB Tryz.underlying200 (by kernel_rfl) (by kernel_rfl) v xT w

theorem Tryz.hasUnwrapA (v : Value) (xT : TypeId) (w : World) : (Instr.typeAssert (.iface 97 v) xT 132 true).run Tryz.prog w = .ok (.tuple #[.iface 97 v, .bool true]) w :=
  run_typeAssert_hasB Tryz.underlying132 (by kernel_rfl) v xT w

theorem Tryz.methodUnwrapA (a : Addr) (w : World) : (Go.method 342 97 (.pointer (some a)) "Unwrap").run Tryz.prog w = .ok (111, .pointer (some a)) w := by kernel_rfl

theorem Tryz.nilAheadA (a : Addr) (w : World) : (Go.nilAhead 342 97 (.pointer (some a)) "Unwrap").run Tryz.prog w = .ok (some false) w := by kernel_rfl

set_option maxHeartbeats 4000000 in
/-- errors.As, the error is an *api.At: its Unwrap is asked, and is an Errno. -/
theorem as_at (p : Nat) (x y : Int) (t : Addr) (old : Value) (w : World) (hp : Flt w p x y) (hg : HasErr w) (ht0 : w.cell? t = some old) (hf0 : w.frozen? t = false) :
    Calls Tryz.prog 65 #[.iface 97 (.pointer (some ⟨p, 0, none⟩)), .iface 164 (.pointer (some t))] w fun ev w' => ev = .returned (.bool true) ∧ ∃ w1, Below w.heap.size w w1 ∧ w' = w1.setCell t (.int .i64 x) := by
  have hVO := @run_callFunc_extern Tryz.prog 73 _ (fun args => ReflectliteValue.unpack (args.getD 0 (.tuple #[]))) Tryz.func73 (by kernel_rfl) (by kernel_rfl) (by kernel_rfl) (by kernel_rfl)
  have hTy := @run_callFunc_extern Tryz.prog 74 _ (ReflectliteValue.methodAny (ReflectliteValue.valueError "reflectlite.Value.Type" 0) (fun t _ _ _ => ReflectliteType.toType t)) Tryz.func74 (by kernel_rfl) (by kernel_rfl) (by kernel_rfl) (by kernel_rfl)
  have hIN := @run_callFunc_extern Tryz.prog 75 _ (ReflectliteValue.method (ReflectliteValue.valueError "reflectlite.Value.IsNil" 0) ReflectliteValue.isNil) Tryz.func75 (by kernel_rfl) (by kernel_rfl) (by kernel_rfl) (by kernel_rfl)
  have hKi := @run_callFunc_extern Tryz.prog 106 _ (ReflectliteType.abiMethod fun t => do pure (.int .u8 (← Rtype.kind t))) Tryz.func106 (by kernel_rfl) (by kernel_rfl) (by kernel_rfl) (by kernel_rfl)
  have hEl := @run_callFunc_extern Tryz.prog 118 _ (ReflectliteType.method ReflectliteType.elem) Tryz.func118 (by kernel_rfl) (by kernel_rfl) (by kernel_rfl) (by kernel_rfl)
  have hIm := @run_callFunc_extern Tryz.prog 119 _ (ReflectliteType.relation "Implements" ReflectliteType.implements_) Tryz.func119 (by kernel_rfl) (by kernel_rfl) (by kernel_rfl) (by kernel_rfl)
  have hTO := @run_callFunc_extern Tryz.prog 81 _ ReflectliteType.typeOf Tryz.func81 (by kernel_rfl) (by kernel_rfl) (by kernel_rfl) (by kernel_rfl)
  have hAT := @run_callFunc_extern Tryz.prog 116 _ (ReflectliteType.relation "AssignableTo" ReflectliteType.assignableTo) Tryz.func116 (by kernel_rfl) (by kernel_rfl) (by kernel_rfl) (by kernel_rfl)
  have hEV := @run_callFunc_extern Tryz.prog 82 _ (ReflectliteValue.method (ReflectliteValue.valueError "reflectlite.Value.Elem" 0) ReflectliteValue.elem) Tryz.func82 (by kernel_rfl) (by kernel_rfl) (by kernel_rfl) (by kernel_rfl)
  have hSe := @run_callFunc_extern Tryz.prog 83 _ ReflectliteValue.set Tryz.func83 (by kernel_rfl) (by kernel_rfl) (by kernel_rfl) (by kernel_rfl)
  have q1 := Tryz.rlValueOfPE
  have q2 := Tryz.rlTypePE
  have q3 := Tryz.rlMethodKind
  have q4 := Tryz.rlKindPE
  have q5 := Tryz.rlKindE
  have q6 := Tryz.rlMethodElem
  have q7 := Tryz.rlMethodImplements
  have q8 := Tryz.rlMethodAssignableTo
  have q9 := Tryz.rlElemPE
  have q10 := Tryz.rlImplementsE
  have q11 := Tryz.rlTypeOfE
  have q12 := Tryz.rlAssignableEE
  have q13 := Tryz.rlValueOfE
  have q14 := Tryz.rlTypeOfA
  have q15 := Tryz.rlAssignableAE
  have q16 := Tryz.noAsA
  have q17 := Tryz.hasUnwrapA
  have q18 := Tryz.methodUnwrapA
  have q19 := Tryz.nilAheadA
  have n8 := Tryz.rlIsNilPE ⟨w.heap.size, 0, none⟩ t ((w.alloc (.cells #[.pointer (some t)] 164)).alloc (.cells #[.pointer (some ⟨4, 164, none⟩), .pointer (some ⟨w.heap.size, 0, none⟩), .int .u64 150] 179)) (by simp)
  have hg2 : ((w.alloc (.cells #[.pointer (some t)] 164)).alloc (.cells #[.pointer (some ⟨4, 164, none⟩), .pointer (some ⟨w.heap.size, 0, none⟩), .int .u64 150] 179)).cell? ⟨0, 0, none⟩ = some (.iface 195 (.agg #[.pointer (some ⟨4, 36, none⟩)])) := (hg.alloc _).alloc _
  have htl : t.block < w.heap.size := by
    rcases Nat.lt_or_ge t.block w.heap.size with h | h
    · exact h
    · simp [World.cell?, Array.getElem?_eq_none h] at ht0
  have el := Tryz.rlElemVPE ⟨w.heap.size, 0, none⟩ t (((w.alloc (.cells #[.pointer (some t)] 164)).alloc (.cells #[.pointer (some ⟨4, 164, none⟩), .pointer (some ⟨w.heap.size, 0, none⟩), .int .u64 150] 179)).alloc (.cells #[.pointer (some ⟨4, 164, none⟩), .pointer (some ⟨w.heap.size, 0, none⟩), .int .u64 150] 179)) (by rw [World.cell?_alloc_lt _ _ ⟨w.heap.size, 0, none⟩ (by simp; omega)]; simp)
  have st := Tryz.rlSetE t ⟨w.heap.size + 1 + 1 + 1, 0, none⟩ x old ((((w.alloc (.cells #[.pointer (some t)] 164)).alloc (.cells #[.pointer (some ⟨4, 164, none⟩), .pointer (some ⟨w.heap.size, 0, none⟩), .int .u64 150] 179)).alloc (.cells #[.pointer (some ⟨4, 164, none⟩), .pointer (some ⟨w.heap.size, 0, none⟩), .int .u64 150] 179)).alloc (.cells #[.int .i64 x] 30))
    (by rw [World.cell?_alloc_at _ _ _ _ (by simp)]; rfl)
    (by rw [World.cell?_alloc_lt _ _ t (by simp; omega), World.cell?_alloc_lt _ _ t (by simp; omega), World.cell?_alloc_lt _ _ t (by simp; omega), World.cell?_alloc_lt _ _ t htl]; exact ht0)
    (by rw [World.frozen?_alloc_old _ _ t (by simp; omega), World.frozen?_alloc_old _ _ t (by simp; omega), World.frozen?_alloc_old _ _ t (by simp; omega), World.frozen?_alloc_old _ _ t (Nat.ne_of_lt htl)]; exact hf0)
  have hB : Below w.heap.size w ((((w.alloc (.cells #[.pointer (some t)] 164)).alloc (.cells #[.pointer (some ⟨4, 164, none⟩), .pointer (some ⟨w.heap.size, 0, none⟩), .int .u64 150] 179)).alloc (.cells #[.pointer (some ⟨4, 164, none⟩), .pointer (some ⟨w.heap.size, 0, none⟩), .int .u64 150] 179)).alloc (.cells #[.int .i64 x] 30)) := ((((Below.refl _ _).alloc (Nat.le_refl _) _).alloc (by simp) _).alloc (by simp; omega) _).alloc (by simp; omega) _
  have hc0 : (((w.alloc (.cells #[.pointer (some t)] 164)).alloc (.cells #[.pointer (some ⟨4, 164, none⟩), .pointer (some ⟨w.heap.size, 0, none⟩), .int .u64 150] 179)).alloc (.cells #[.pointer (some ⟨4, 164, none⟩), .pointer (some ⟨w.heap.size, 0, none⟩), .int .u64 150] 179)).cell? ⟨p, 0, none⟩ = some (.int .i64 x) := (((hp.alloc _).alloc _).alloc _).c0
  have HB := Lib.hid hB
  clear hB
  go_enter Tryz.func65, Tryz.ntmps65
  go_wp2
  refine wp_loop_rounds 2 ?_
  rw [rounds_succ]
  go_wp2
  rw [rounds_succ]
  go_wp2
  go_ret
  exact ⟨rfl, _, HB.out, rfl⟩

end Go.Proofs.YtocgnbbnaamjjaaGreatDoor

namespace Go.Proofs.YtocgnbbnaamjjaaGreatDoor
open Go.RowKit Go.Extern.Stop Go.Stop Go.Extern

/-- What errors.As leaves: the target holds the Errno; nothing else that was there is changed. -/
theorem as_left {t : Addr} {x : Int} {old : Value} {w w1 : World} (hb : Below w.heap.size w w1) (ht : w.cell? t = some old) :
    (w1.setCell t (.int .i64 x)).cell? t = some (.int .i64 x) ∧ w.grownBy (w1.setCell t (.int .i64 x)) (some t.block) := by
  have hlt : t.block < w.heap.size := World.block_lt_of_cell? w t ht
  have hc : w1.cell? t = some old := (hb.cell hlt).trans ht
  refine ⟨World.cell?_setCell_same' w1 t _ (by rw [hc]; rfl), hb.os, hb.tape, hb.output, by simpa [World.setCell] using hb.size, fun k hk hne => ?_⟩
  exact (Below.heap_setCell _ _ _ _ (by intro e; exact hne (by rw [e]))).trans (hb.block k hk)

theorem tell_nil (w : World) : Calls Tryz.prog 43 #[.nilIface] w fun e w' => e = .returned (.int .i64 0) ∧ w = w' := by
  go_enter Tryz.func43, Tryz.ntmps43
  go_wp2
  go_ret
  exact ⟨rfl, rfl⟩

theorem tell_errno (x : Int) (w : World) (hg : HasErr w) : Calls Tryz.prog 43 #[.iface 30 (.int .i64 x)] w fun e w' => e = .returned (.int .i64 x) ∧ Below w.heap.size w w' := by
  go_enter Tryz.func43, Tryz.ntmps43
  go_wp2_with fail
  have hc : (w.alloc (.cells #[.int .i64 0] 30)).cell? ⟨w.heap.size, 0, none⟩ = some (.int .i64 0) := by simp
  refine (as_errno x ⟨w.heap.size, 0, none⟩ (.int .i64 0) _ (hg.alloc _) hc (by simp)).mono ?_
  rintro e w' ⟨rfl, w1, hb1, rfl⟩
  obtain ⟨h1, h2⟩ := as_left (x := x) hb1 hc
  have hB : Below w.heap.size w (w1.setCell ⟨w.heap.size, 0, none⟩ (.int .i64 x)) := ((Below.refl _ _).alloc (Nat.le_refl _) _).grown h2 (by simp) (fun k e => by cases e; exact Nat.le_refl _)
  clear hb1 h2 hc
  generalize w1.setCell ⟨w.heap.size, 0, none⟩ (.int .i64 x) = w2 at *
  go_wp2
  go_ret
  exact ⟨rfl, hB⟩

theorem tell_at (p : Nat) (x y : Int) (w : World) (hg : HasErr w) (hp : Flt w p x y) : Calls Tryz.prog 43 #[.iface 97 (.pointer (some ⟨p, 0, none⟩))] w fun e w' => e = .returned (.int .i64 x) ∧ Below w.heap.size w w' := by
  go_enter Tryz.func43, Tryz.ntmps43
  go_wp2_with fail
  have hc : (w.alloc (.cells #[.int .i64 0] 30)).cell? ⟨w.heap.size, 0, none⟩ = some (.int .i64 0) := by simp
  refine (as_at p x y ⟨w.heap.size, 0, none⟩ (.int .i64 0) _ (hp.alloc _) (hg.alloc _) hc (by simp)).mono ?_
  rintro e w' ⟨rfl, w1, hb1, rfl⟩
  obtain ⟨h1, h2⟩ := as_left (x := x) hb1 hc
  have hB : Below w.heap.size w (w1.setCell ⟨w.heap.size, 0, none⟩ (.int .i64 x)) := ((Below.refl _ _).alloc (Nat.le_refl _) _).grown h2 (by simp) (fun k e => by cases e; exact Nat.le_refl _)
  clear hb1 h2 hc
  generalize w1.setCell ⟨w.heap.size, 0, none⟩ (.int .i64 x) = w2 at *
  go_wp2
  go_ret
  exact ⟨rfl, hB⟩

theorem Tryz.noUnwrapE (v : Value) (xT : TypeId) (w : World) : (Instr.typeAssert (.iface 30 v) xT 132 true).run Tryz.prog w = .ok (.tuple #[.nilIface, .bool false]) w :=
  run_typeAssert_lacksB Tryz.underlying132 (by kernel_rfl) (by kernel_rfl) v xT w

theorem Tryz.noAtE (v : Value) (w : World) : (Instr.typeAssert (.iface 30 v) 36 97 true).run Tryz.prog w = .ok (.tuple #[.pointer none, .bool false]) w := by kernel_rfl

theorem Tryz.isAtA (v : Value) (w : World) : (Instr.typeAssert (.iface 97 v) 36 97 true).run Tryz.prog w = .ok (.tuple #[v, .bool true]) w := by kernel_rfl

theorem place_nil (w : World) : Calls Tryz.prog 18 #[.nilIface] w fun e w' => e = .returned (.tuple #[.int .i64 0, .int .i64 (-1)]) ∧ w = w' := by
  go_enter Tryz.func18, Tryz.ntmps18
  go_wp2_with fail
  refine (tell_nil _).mono ?_
  rintro e w' ⟨rfl, rfl⟩
  go_wp2
  refine wp_loop_rounds 1 ?_
  rw [rounds_succ]
  go_wp2
  go_ret2
  exact ⟨rfl, rfl⟩

set_option maxRecDepth 100000 in
theorem place_errno (x : Int) (w : World) (hg : HasErr w) : Calls Tryz.prog 18 #[.iface 30 (.int .i64 x)] w fun e w' => e = .returned (.tuple #[.int .i64 x, .int .i64 (-1)]) ∧ Below w.heap.size w w' := by
  have q := Tryz.noUnwrapE
  have q2 := Tryz.noAtE
  go_enter Tryz.func18, Tryz.ntmps18
  go_wp2_with fail
  refine (tell_errno x _ hg).mono ?_
  rintro e w' ⟨rfl, hB⟩
  go_wp2
  refine wp_loop_rounds 1 ?_
  rw [rounds_succ]
  go_wp2
  go_ret2
  exact ⟨rfl, hB⟩

set_option maxRecDepth 100000 in
theorem place_at (p : Nat) (x y : Int) (w : World) (hg : HasErr w) (hp : Flt w p x y) : Calls Tryz.prog 18 #[.iface 97 (.pointer (some ⟨p, 0, none⟩))] w fun e w' => e = .returned (.tuple #[.int .i64 x, .int .i64 y]) ∧ Below w.heap.size w w' := by
  have q2 := Tryz.isAtA
  go_enter Tryz.func18, Tryz.ntmps18
  go_wp2_with fail
  refine (tell_at p x y _ hg hp).mono ?_
  rintro e w' ⟨rfl, hB⟩
  have hc : w'.cell? ⟨p, 1, none⟩ = some (.int .i64 y) := (hB.cell (p := ⟨p, 1, none⟩) hp.lt).trans hp.c1
  go_wp2
  refine wp_loop_rounds 1 ?_
  rw [rounds_succ]
  go_wp2
  go_region
  all_goals go_wp2
  all_goals go_ret2
  all_goals exact ⟨rfl, hB.drew⟩

end Go.Proofs.YtocgnbbnaamjjaaGreatDoor

namespace Go.Proofs.YtocgnbbnaamjjaaGreatDoor
open Go.RowKit
set_option linter.unusedVariables false

theorem placed_nil (w : World) : Calls Tryz.prog 6 #[.nilIface, .agg (ftC 0 (-1))] w fun e w' => e = .returned (.bool true) ∧ Below w.heap.size w w' := by
  have hb0 : Below w.heap.size w (w.alloc (.cells (ftC 0 (-1)) 32)) := (Below.refl _ _).alloc (Nat.le_refl _) _
  unfold ftC at *
  go_enter Tryz.func6, Tryz.ntmps6
  go_wp2_with fail
  refine (place_nil _).mono ?_
  rintro e w' ⟨rfl, rfl⟩
  go_wp2
  go_ret
  exact ⟨rfl, hb0⟩

theorem placed_at (q : Nat) (x y : Int) (w : World) (hE : HasErr w) (hq : Flt w q x y) : Calls Tryz.prog 6 #[.iface 97 (.pointer (some ⟨q, 0, none⟩)), .agg (ftC x y)] w fun e w' => e = .returned (.bool true) ∧ Below w.heap.size w w' := by
  have hb0 : Below w.heap.size w (w.alloc (.cells (ftC x y) 32)) := (Below.refl _ _).alloc (Nat.le_refl _) _
  have HB := Blk.new w 32 (ftC x y)
  have hq1 := hq.below hb0
  have hE1 : HasErr (w.alloc (.cells (ftC x y) 32)) := hE.below hb0
  go_enter Tryz.func6, Tryz.ntmps6
  go_upto_region 1 with (fail)
  generalize w.alloc (.cells (ftC x y) 32) = w1 at *
  go_wp2_with fail
  refine (place_at q x y _ hE1 hq1).mono ?_
  rintro e w2 ⟨rfl, b2⟩
  have HB2 := HB.kept b2
  have c0 := HB2.cv 0 (.int .i64 x) rfl
  have c1 := HB2.cv 1 (.int .i64 y) rfl
  have e1 : (x == x) = true := by simp
  have e2 : (y == y) = true := by simp
  go_wp2
  go_ret
  exact ⟨rfl, hb0.trans (b2.mono hb0.size)⟩

theorem placed_any (er : Value) (x y : Int) (w : World) (hE : HasErr w) (h : ErrAs w er x y) : Calls Tryz.prog 6 #[er, .agg (ftC x y)] w fun e w' => e = .returned (.bool true) ∧ Below w.heap.size w w' := by
  rcases h with ⟨rfl, rfl, rfl⟩ | ⟨_, q, rfl, hf⟩
  · exact placed_nil w
  · exact placed_at q x y w hE hf

end Go.Proofs.YtocgnbbnaamjjaaGreatDoor

namespace Go.Proofs.YtocgnbbnaamjjaaGreatDoor

/-- A hexadecimal digit. -/
def hexc (n : Nat) : UInt8 := if n < 10 then UInt8.ofNat (48 + n) else UInt8.ofNat (87 + n)

/-- The two digits of a byte. -/
def hex2 (n : Nat) : List UInt8 := [hexc (n / 16), hexc (n % 16)]

/-- The text of the first bytes of an address, up to a place. -/
def addrTo (x : Nat → Nat) : Nat → List UInt8
  | 0 => []
  | k + 1 => addrTo x k ++ ((if k = 0 then [] else [58]) ++ hex2 (x k))

/-- The text of a list of bytes, a colon between each two. -/
def txt : List Nat → List UInt8
  | [] => []
  | [a] => hex2 a
  | a :: b :: r => hexc (a / 16) :: hexc (a % 16) :: 58 :: txt (b :: r)

/-- The six bytes of an address. -/
def six (x : Nat → Nat) : List Nat := [x 0, x 1, x 2, x 3, x 4, x 5]

/-- The text of an address. -/
def addrL (x : Nat → Nat) : List UInt8 := addrTo x 6

theorem addrL_txt (x : Nat → Nat) : addrL x = txt (six x) := by simp [addrL, addrTo, txt, six, hex2]

theorem addrL_length (x : Nat → Nat) : (addrL x).length = 17 := by simp [addrL, addrTo, hex2]

theorem hexc_inj : ∀ a, a < 16 → ∀ b, b < 16 → hexc a = hexc b → a = b := by decide

theorem hexc_lt : ∀ a, a < 16 → ∀ b, b < 16 → (decide (hexc a < hexc b) = decide (a < b)) := by decide

theorem hexc_beq : ∀ a, a < 16 → ∀ b, b < 16 → ((hexc a == hexc b) = decide (a = b)) := by decide

theorem txt_inj : ∀ (u v : List Nat), u.length = v.length → (∀ a ∈ u, a < 256) → (∀ a ∈ v, a < 256) → txt u = txt v → u = v
  | [], [], _, _, _, _ => rfl
  | [], _ :: _, h, _, _, _ => by simp at h
  | _ :: _, [], h, _, _, _ => by simp at h
  | [a], [b], _, hu, hv, h => by
    have ha := hu a (by simp)
    have hb := hv b (by simp)
    simp only [txt, hex2, List.cons.injEq, and_true] at h
    have h1 := hexc_inj _ (by omega) _ (by omega) h.1
    have h2 := hexc_inj _ (by omega) _ (by omega) h.2
    congr 1
    omega
  | [_], _ :: _ :: _, h, _, _, _ => by simp at h
  | _ :: _ :: _, [_], h, _, _, _ => by simp at h
  | a :: a' :: u, b :: b' :: v, hl, hu, hv, h => by
    have ha := hu a (by simp)
    have hb := hv b (by simp)
    simp only [txt, List.cons.injEq, true_and] at h
    have h1 := hexc_inj _ (by omega) _ (by omega) h.1
    have h2 := hexc_inj _ (by omega) _ (by omega) h.2.1
    have h3 := txt_inj (a' :: u) (b' :: v) (by simpa using hl) (fun c hc => hu c (List.mem_cons_of_mem _ hc)) (fun c hc => hv c (List.mem_cons_of_mem _ hc)) h.2.2
    rw [h3]
    congr 1
    omega

theorem byte_lt (a b : Nat) (ha : a < 256) (hb : b < 256) : decide (UInt8.ofNat a < UInt8.ofNat b) = decide (a < b) := by
  simp [UInt8.lt_iff_toNat_lt, Nat.mod_eq_of_lt ha, Nat.mod_eq_of_lt hb]

theorem byte_beq (a b : Nat) (ha : a < 256) (hb : b < 256) : (UInt8.ofNat a == UInt8.ofNat b) = decide (a = b) := by
  rw [Bool.eq_iff_iff]
  simp only [beq_iff_eq, decide_eq_true_eq]
  constructor
  · intro h
    have := congrArg UInt8.toNat h
    simpa [Nat.mod_eq_of_lt ha, Nat.mod_eq_of_lt hb] using this
  · rintro rfl; rfl

/-- Texts of bytes are in the order of the bytes. -/
theorem txt_less : ∀ (u v : List Nat), u.length = v.length → (∀ a ∈ u, a < 256) → (∀ a ∈ v, a < 256) → Op.bytesLess (txt u) (txt v) = Op.bytesLess (u.map UInt8.ofNat) (v.map UInt8.ofNat)
  | [], [], _, _, _ => rfl
  | [], _ :: _, h, _, _ => by simp at h
  | _ :: _, [], h, _, _ => by simp at h
  | [a], [b], _, hu, hv => by
    have ha := hu a (by simp)
    have hb := hv b (by simp)
    simp only [txt, hex2, List.map, Op.bytesLess, Bool.and_false, Bool.or_false, hexc_lt _ (show a / 16 < 16 by omega) _ (show b / 16 < 16 by omega), hexc_lt _ (show a % 16 < 16 by omega) _ (show b % 16 < 16 by omega),
      hexc_beq _ (show a / 16 < 16 by omega) _ (show b / 16 < 16 by omega), byte_lt a b ha hb]
    rw [Bool.eq_iff_iff]
    simp
    omega
  | [_], _ :: _ :: _, h, _, _ => by simp at h
  | _ :: _ :: _, [_], h, _, _ => by simp at h
  | a :: a' :: u, b :: b' :: v, hl, hu, hv => by
    have ha := hu a (by simp)
    have hb := hv b (by simp)
    have h3 := txt_less (a' :: u) (b' :: v) (by simpa using hl) (fun c hc => hu c (List.mem_cons_of_mem _ hc)) (fun c hc => hv c (List.mem_cons_of_mem _ hc))
    simp only [txt, List.map] at h3 ⊢
    rw [Op.bytesLess, Op.bytesLess, Op.bytesLess, Op.bytesLess, h3, hexc_lt _ (show a / 16 < 16 by omega) _ (show b / 16 < 16 by omega), hexc_lt _ (show a % 16 < 16 by omega) _ (show b % 16 < 16 by omega),
      hexc_beq _ (show a / 16 < 16 by omega) _ (show b / 16 < 16 by omega), hexc_beq _ (show a % 16 < 16 by omega) _ (show b % 16 < 16 by omega), byte_lt a b ha hb, byte_beq a b ha hb]
    generalize Op.bytesLess (UInt8.ofNat a' :: _) _ = q
    cases q <;> rw [Bool.eq_iff_iff] <;> simp <;> omega

theorem six_lt {x : Nat → Nat} (h : ∀ i, x i < 256) : ∀ a ∈ six x, a < 256 := by
  intro a ha
  simp only [six, List.mem_cons, List.not_mem_nil, or_false] at ha
  rcases ha with rfl | rfl | rfl | rfl | rfl | rfl <;> exact h _

theorem addrL_inj {x y : Nat → Nat} (hx : ∀ i, x i < 256) (hy : ∀ i, y i < 256) (h : addrL x = addrL y) : six x = six y :=
  txt_inj _ _ rfl (six_lt hx) (six_lt hy) (by rw [← addrL_txt, ← addrL_txt, h])

theorem addrL_less {x y : Nat → Nat} (hx : ∀ i, x i < 256) (hy : ∀ i, y i < 256) : Op.bytesLess (addrL x) (addrL y) = Op.bytesLess ((six x).map UInt8.ofNat) ((six y).map UInt8.ofNat) := by
  rw [addrL_txt, addrL_txt]
  exact txt_less _ _ rfl (six_lt hx) (six_lt hy)

/-- Below zero is how 'compareBytes' says that the first list is less. -/
theorem compare_less : ∀ (a b : List UInt8), decide (Lib.compareBytes a b < 0) = Op.bytesLess a b
  | [], [] => by simp [Lib.compareBytes, Op.bytesLess]
  | [], _ :: _ => by simp [Lib.compareBytes, Op.bytesLess]
  | _ :: _, [] => by simp [Lib.compareBytes, Op.bytesLess]
  | a :: x, b :: y => by
    have ih := compare_less x y
    unfold Lib.compareBytes Op.bytesLess
    by_cases h1 : a < b
    · simp [h1]
    · by_cases h2 : b < a
      · have h3 : ¬ a = b := by rintro rfl; exact h1 h2
        simp [h1, h2, h3]
      · have h3 : a = b := by
          rw [UInt8.lt_iff_toNat_lt] at h1 h2
          exact UInt8.toNat_inj.1 (by omega)
        subst h3
        simp [h1, ih]

/-- The order of lists of one length: just one of less, equal, greater. -/
theorem less_irrefl : ∀ a : List UInt8, Op.bytesLess a a = false
  | [] => rfl
  | a :: x => by simp [Op.bytesLess, less_irrefl x, UInt8.lt_irrefl]

theorem less_asymm : ∀ a b : List UInt8, Op.bytesLess a b = true → Op.bytesLess b a = false
  | _, [], h => by simp [Op.bytesLess] at h
  | [], _ :: _, _ => by simp [Op.bytesLess]
  | a :: x, b :: y, h => by
    have ih := less_asymm x y
    simp only [Op.bytesLess, Bool.or_eq_true, decide_eq_true_eq, Bool.and_eq_true, beq_iff_eq, Bool.or_eq_false_iff, decide_eq_false_iff_not, Bool.and_eq_false_iff] at h ⊢
    rcases h with h | ⟨rfl, h⟩
    · refine ⟨UInt8.lt_asymm h, Or.inl ?_⟩
      rw [beq_eq_false_iff_ne]; rintro rfl; exact UInt8.lt_irrefl _ h
    · exact ⟨UInt8.lt_irrefl _, Or.inr (ih h)⟩

theorem less_total : ∀ a b : List UInt8, a.length = b.length → Op.bytesLess a b = false → Op.bytesLess b a = false → a = b
  | [], [], _, _, _ => rfl
  | _ :: _, [], h, _, _ => by simp at h
  | [], _ :: _, h, _, _ => by simp at h
  | a :: x, b :: y, hl, h1, h2 => by
    simp only [Op.bytesLess, Bool.or_eq_false_iff, decide_eq_false_iff_not, Bool.and_eq_false_iff, beq_eq_false_iff_ne] at h1 h2
    have e : a = b := by
      have q1 := h1.1; have q2 := h2.1
      rw [UInt8.lt_iff_toNat_lt] at q1 q2
      exact UInt8.toNat_inj.1 (by omega)
    subst e
    rw [less_total x y (by simpa using hl) (h1.2.resolve_left fun q => q rfl) (h2.2.resolve_left fun q => q rfl)]

theorem less_trans : ∀ a b c : List UInt8, Op.bytesLess a b = true → Op.bytesLess b c = true → Op.bytesLess a c = true
  | _, [], _, h, _ => by simp [Op.bytesLess] at h
  | _, _ :: _, [], _, h => by simp [Op.bytesLess] at h
  | [], _ :: _, _ :: _, _, _ => by simp [Op.bytesLess]
  | a :: x, b :: y, c :: z, h1, h2 => by
    have ih := less_trans x y z
    simp only [Op.bytesLess, Bool.or_eq_true, decide_eq_true_eq, Bool.and_eq_true, beq_iff_eq] at h1 h2 ⊢
    rcases h1 with h1 | ⟨rfl, h1⟩
    · rcases h2 with h2 | ⟨rfl, h2⟩
      · exact Or.inl (UInt8.lt_trans h1 h2)
      · exact Or.inl h1
    · rcases h2 with h2 | ⟨rfl, h2⟩
      · exact Or.inl h2
      · exact Or.inr ⟨rfl, ih h1 h2⟩

end Go.Proofs.YtocgnbbnaamjjaaGreatDoor

namespace Go.Proofs.YtocgnbbnaamjjaaGreatDoor
set_option linter.unusedVariables false

/-- A bridge's name. -/
structure Br where
  p : Int
  e : Int
  a : Nat → Nat

/-- A vector. -/
structure Ve where
  root : Br
  cost : Int
  sender : Br
  pp : Int
  pn : Int
  ap : Int
  an : Int

def sixI (x : Nat → Nat) : List Int := [(x 0 : Int), (x 1 : Int), (x 2 : Int), (x 3 : Int), (x 4 : Int), (x 5 : Int)]

def numsB (b : Br) : List Int := [b.p, b.e] ++ sixI b.a

def lineV (v : Ve) : List Int := numsB v.root ++ ([v.cost] ++ (numsB v.sender ++ [v.pp, v.pn, v.ap, v.an]))

theorem numsB_len (b : Br) : (numsB b).length = 8 := rfl

theorem lineV_len (v : Ve) : (lineV v).length = 21 := rfl

/-- How two numbers lie. -/
def cmpI (x y : Int) : Int := if x < y then -1 else if y < x then 1 else 0

/-- How two lists lie: by the first number that differs. -/
def cmpL : List Int → List Int → Int
  | a :: l, b :: m => if a < b then -1 else if b < a then 1 else cmpL l m
  | _, _ => 0

/-- The first number that is not 0. -/
def orI : List Int → Int
  | [] => 0
  | a :: l => if a = 0 then orI l else a

theorem cmpL_one (x y : Int) : cmpL [x] [y] = cmpI x y := by simp [cmpL, cmpI]

theorem orI_one (x : Int) : orI [x] = x := by unfold orI; split <;> simp_all [orI]

theorem cmpI_zero {x y : Int} : cmpI x y = 0 ↔ x = y := by
  unfold cmpI
  repeat' split
  all_goals omega

theorem cmpL_append : ∀ (l m l' m' : List Int), l.length = m.length → cmpL (l ++ l') (m ++ m') = if cmpL l m = 0 then cmpL l' m' else cmpL l m
  | [], [], l', m', _ => by simp [cmpL]
  | [], _ :: _, _, _, h => by simp at h
  | _ :: _, [], _, _, h => by simp at h
  | a :: l, b :: m, l', m', h => by
    have ih := cmpL_append l m l' m' (by simpa using h)
    simp only [List.cons_append, cmpL]
    split
    · simp
    · split
      · simp
      · exact ih

theorem cmpL_self : ∀ l : List Int, cmpL l l = 0
  | [] => rfl
  | a :: l => by simp [cmpL, cmpL_self l]

theorem cmpL_eq : ∀ l m : List Int, l.length = m.length → cmpL l m = 0 → l = m
  | [], [], _, _ => rfl
  | [], _ :: _, h, _ => by simp at h
  | _ :: _, [], h, _ => by simp at h
  | a :: l, b :: m, h, h0 => by
    simp only [cmpL] at h0
    split at h0
    · omega
    · split at h0
      · omega
      · rw [cmpL_eq l m (by simpa using h) h0, show a = b by omega]

theorem cmpL_iff {l m : List Int} (h : l.length = m.length) : cmpL l m = 0 ↔ l = m := ⟨cmpL_eq l m h, by rintro rfl; exact cmpL_self _⟩

theorem cmpL_swap : ∀ l m : List Int, cmpL m l = -cmpL l m
  | [], [] => rfl
  | [], _ :: _ => rfl
  | _ :: _, [] => rfl
  | a :: l, b :: m => by
    have ih := cmpL_swap l m
    simp only [cmpL]
    repeat' split
    all_goals omega

theorem cmpL_trans : ∀ l m k : List Int, l.length = m.length → m.length = k.length → cmpL l m < 0 → cmpL m k < 0 → cmpL l k < 0
  | [], [], [], _, _, h, _ => by simp [cmpL] at h
  | [], _ :: _, _, h, _, _, _ => by simp at h
  | _ :: _, [], _, h, _, _, _ => by simp at h
  | [], [], _ :: _, _, h, _, _ => by simp at h
  | _ :: _, _ :: _, [], _, h, _, _ => by simp at h
  | a :: l, b :: m, c :: k, h, h', h1, h2 => by
    have ih := cmpL_trans l m k (by simpa using h) (by simpa using h')
    simp only [cmpL] at h1 h2 ⊢
    by_cases q1 : a < b
    · by_cases q2 : b < c
      · rw [if_pos (by omega)]; decide
      · by_cases q3 : c < b
        · rw [if_neg q2, if_pos q3] at h2; omega
        · rw [if_pos (by omega)]; decide
    · by_cases q4 : b < a
      · rw [if_neg q1, if_pos q4] at h1; omega
      · rw [if_neg q1, if_neg q4] at h1
        obtain rfl : a = b := by omega
        by_cases q2 : a < c
        · rw [if_pos q2]; decide
        · rw [if_neg q2] at h2 ⊢
          by_cases q3 : c < a
          · rw [if_pos q3] at h2; omega
          · rw [if_neg q3] at h2 ⊢
            exact ih h1 h2

theorem cmpL_range : ∀ l m : List Int, cmpL l m = -1 ∨ cmpL l m = 0 ∨ cmpL l m = 1
  | [], [] => Or.inr (Or.inl rfl)
  | [], _ :: _ => Or.inr (Or.inl rfl)
  | _ :: _, [] => Or.inr (Or.inl rfl)
  | a :: l, b :: m => by
    have ih := cmpL_range l m
    simp only [cmpL]
    repeat' split
    all_goals omega

/-- A bridge's name is less; a vector is better. -/
def lessB (a b : Br) : Bool := decide (cmpL (numsB a) (numsB b) < 0)

def bettV (a b : Ve) : Bool := decide (cmpL (lineV a) (lineV b) < 0)

theorem bettV_irr (a : Ve) : bettV a a = false := by simp [bettV, cmpL_self]

theorem bettV_asym {a b : Ve} (h : bettV a b = true) : bettV b a = false := by
  have := cmpL_swap (lineV a) (lineV b)
  simp only [bettV, decide_eq_true_eq, decide_eq_false_iff_not] at h ⊢
  omega

theorem bettV_trans {a b c : Ve} (h : bettV a b = true) (h' : bettV b c = true) : bettV a c = true := by
  simp only [bettV, decide_eq_true_eq] at h h' ⊢
  exact cmpL_trans (lineV a) (lineV b) (lineV c) rfl rfl h h'

theorem bettV_tot {a b : Ve} (h : lineV a ≠ lineV b) : bettV a b = true ∨ bettV b a = true := by
  have h1 := cmpL_swap (lineV a) (lineV b)
  have h2 : cmpL (lineV a) (lineV b) ≠ 0 := fun e => h (cmpL_eq _ _ rfl e)
  simp only [bettV, decide_eq_true_eq]
  omega

/-- Not worse, over a third. -/
theorem bettV_neg {a b c : Ve} (h : bettV b a = false) (h' : bettV c b = false) : bettV c a = false := by
  cases hc : bettV c a with
  | false => rfl
  | true =>
    by_cases e : lineV a = lineV b
    · simp only [bettV] at hc h'
      rw [e] at hc
      rw [hc] at h'; cases h'
    · rcases bettV_tot e with q | q
      · rw [bettV_trans hc q] at h'; cases h'
      · rw [q] at h; cases h

/-- Which of a list is best. -/
def BestAt (l : List Ve) (i : Int) : Prop := (l = [] ∧ i = -1) ∨ ∃ k, ∃ hk : k < l.length, i = (k : Int) ∧ (∀ j (hj : j < l.length), j < k → bettV l[k] l[j] = true) ∧ ∀ j (hj : j < l.length), bettV l[j] l[k] = false

theorem BestAt.one {l : List Ve} {i j : Int} (h : BestAt l i) (h' : BestAt l j) : i = j := by
  rcases h with ⟨rfl, rfl⟩ | ⟨k, hk, rfl, h1, h2⟩
  · rcases h' with ⟨_, rfl⟩ | ⟨m, hm, _⟩
    · rfl
    · simp at hm
  · rcases h' with ⟨rfl, _⟩ | ⟨m, hm, rfl, h3, h4⟩
    · simp at hk
    · rcases Nat.lt_trichotomy k m with q | q | q
      · have := h3 k hk q
        rw [h2 m hm] at this; cases this
      · rw [q]
      · have := h1 m hm q
        rw [h4 k hk] at this; cases this

theorem bytesLess_cmp : ∀ (u v : List Nat), u.length = v.length → (∀ a ∈ u, a < 256) → (∀ a ∈ v, a < 256) → Op.bytesLess (u.map UInt8.ofNat) (v.map UInt8.ofNat) = decide (cmpL (u.map Int.ofNat) (v.map Int.ofNat) < 0)
  | [], [], _, _, _ => by simp [cmpL, Op.bytesLess]
  | [], _ :: _, h, _, _ => by simp at h
  | _ :: _, [], h, _, _ => by simp at h
  | a :: u, b :: v, h, hu, hv => by
    have ih := bytesLess_cmp u v (by simpa using h) (fun c hc => hu c (List.mem_cons_of_mem _ hc)) (fun c hc => hv c (List.mem_cons_of_mem _ hc))
    have ha := hu a (by simp)
    have hb := hv b (by simp)
    simp only [List.map_cons, Op.bytesLess, cmpL, byte_lt a b ha hb, byte_beq a b ha hb, ih]
    by_cases h1 : a < b
    · simp [h1]
    · by_cases h2 : b < a
      · have : ¬ a = b := by omega
        simp [h1, h2, this]
      · have : a = b := by omega
        subst this
        simp

theorem sixI_map (x : Nat → Nat) : sixI x = (six x).map Int.ofNat := rfl

theorem six_cmp {x y : Nat → Nat} (hx : ∀ i, x i < 256) (hy : ∀ i, y i < 256) : Op.bytesLess ((six x).map UInt8.ofNat) ((six y).map UInt8.ofNat) = decide (cmpL (sixI x) (sixI y) < 0) := by
  rw [sixI_map, sixI_map]
  exact bytesLess_cmp _ _ rfl (six_lt hx) (six_lt hy)

theorem sixI_inj {x y : Nat → Nat} (h : sixI x = sixI y) : six x = six y := by
  simp only [sixI, six, List.cons.injEq, Int.natCast_inj, and_true] at h ⊢
  exact h

/-- The order is on the parts. -/
theorem lessB_parts (a b : Br) : cmpL (numsB a) (numsB b) = orI [cmpI a.p b.p, cmpI a.e b.e, cmpL (sixI a.a) (sixI b.a)] := by
  unfold numsB
  rw [cmpL_append [a.p, a.e] [b.p, b.e] _ _ rfl]
  simp only [cmpL, cmpI, orI]
  by_cases h1 : a.p < b.p
  · simp [h1]
  · by_cases h2 : b.p < a.p
    · simp [h1, h2]
    · by_cases h3 : a.e < b.e
      · simp [h1, h2, h3]
      · by_cases h4 : b.e < a.e
        · simp [h1, h2, h3, h4]
        · by_cases h5 : cmpL (sixI a.a) (sixI b.a) = 0 <;> simp [h1, h2, h3, h4, h5]

theorem orI_cons (x : Int) (l : List Int) : orI (x :: l) = if x = 0 then orI l else x := rfl

theorem cmpL_two (x y u v : Int) : cmpL [x, y] [u, v] = orI [cmpI x u, cmpI y v] := by
  simp only [cmpL, cmpI, orI]
  by_cases h1 : x < u
  · simp [h1]
  · by_cases h2 : u < x
    · simp [h1, h2]
    · by_cases h3 : y < v
      · simp [h1, h2, h3]
      · by_cases h4 : v < y <;> simp [h1, h2, h3, h4]

theorem bettV_parts (a b : Ve) : cmpL (lineV a) (lineV b) = orI [cmpL (numsB a.root) (numsB b.root), cmpI a.cost b.cost, cmpL (numsB a.sender) (numsB b.sender), orI [cmpI a.pp b.pp, cmpI a.pn b.pn], orI [cmpI a.ap b.ap, cmpI a.an b.an]] := by
  unfold lineV
  rw [cmpL_append (numsB a.root) (numsB b.root) _ _ rfl, cmpL_append [a.cost] [b.cost] _ _ rfl, cmpL_append (numsB a.sender) (numsB b.sender) _ _ rfl, ← cmpL_two, ← cmpL_two, cmpL_one]
  have h4 := cmpL_append [a.pp, a.pn] [b.pp, b.pn] [a.ap, a.an] [b.ap, b.an] rfl
  have h4' : cmpL [a.pp, a.pn, a.ap, a.an] [b.pp, b.pn, b.ap, b.an] = if cmpL [a.pp, a.pn] [b.pp, b.pn] = 0 then cmpL [a.ap, a.an] [b.ap, b.an] else cmpL [a.pp, a.pn] [b.pp, b.pn] := h4
  rw [h4', orI_cons, orI_cons, orI_cons, orI_cons, orI_one]

end Go.Proofs.YtocgnbbnaamjjaaGreatDoor

namespace Go.Proofs.YtocgnbbnaamjjaaGreatDoor
set_option linter.unusedVariables false

/-- One of the steps from 0 on. -/
def prB (x top step : Int) : Bool := decide (0 ≤ x) && (decide (x ≤ top) && decide (x % step = 0))

theorem prB_all {x top step : Int} (h : prB x top step = true) : 0 ≤ x ∧ x ≤ top ∧ x % step = 0 := by
  simpa only [prB, Bool.and_eq_true, decide_eq_true_eq] using h

/-- A name that may be. -/
def okB (b : Br) : Bool := prB b.p 61440 4096 && (decide (0 ≤ b.e) && decide (b.e ≤ 4095))

theorem okB_all {b : Br} (h : okB b = true) : 0 ≤ b.p ∧ b.p ≤ 61440 ∧ b.p % 4096 = 0 ∧ 0 ≤ b.e ∧ b.e ≤ 4095 := by
  simp only [okB, prB, Bool.and_eq_true, decide_eq_true_eq] at h
  obtain ⟨⟨h0, h1, h2⟩, h3, h4⟩ := h
  exact ⟨h0, h1, h2, h3, h4⟩

/-- A port's name that may be. -/
def okPt (p n : Int) : Bool := prB p 240 16 && (decide (1 ≤ n) && decide (n ≤ 4095))

theorem okPt_all {p n : Int} (h : okPt p n = true) : 0 ≤ p ∧ p ≤ 240 ∧ p % 16 = 0 ∧ 1 ≤ n ∧ n ≤ 4095 := by
  simp only [okPt, prB, Bool.and_eq_true, decide_eq_true_eq] at h
  obtain ⟨⟨h0, h1, h2⟩, h3, h4⟩ := h
  exact ⟨h0, h1, h2, h3, h4⟩

/-- Its bytes are bytes. -/
def byB (b : Br) : Prop := ∀ i, b.a i < 256


end Go.Proofs.YtocgnbbnaamjjaaGreatDoor

namespace Go.Proofs.YtocgnbbnaamjjaaGreatDoor
set_option linter.unusedVariables false

/-- The eight bytes of a name. -/
def packL (b : Br) : List UInt8 := putL (b.p + b.e).toNat 2 ++ (six b.a).map UInt8.ofNat

theorem packL_len (b : Br) : (packL b).length = 8 := by simp [packL, putL_length, six]

theorem bytesLess_append : ∀ (p q p' q' : List UInt8), p.length = p'.length → Op.bytesLess (p ++ q) (p' ++ q') = (Op.bytesLess p p' || (p == p') && Op.bytesLess q q')
  | [], q, [], q', _ => by simp [Op.bytesLess]
  | [], _, _ :: _, _, h => by simp at h
  | _ :: _, _, [], _, h => by simp at h
  | a :: p, q, b :: p', q', h => by
    have ih := bytesLess_append p q p' q' (by simpa using h)
    simp only [List.cons_append, Op.bytesLess, ih]
    by_cases e : a = b
    · subst e
      simp
    · have e' : (a == b) = false := by simpa using e
      simp [e']

theorem packL_less {a b : Br} (ha : okB a = true) (hb : okB b = true) (xa : byB a) (xb : byB b) : Op.bytesLess (packL a) (packL b) = lessB a b := by
  obtain ⟨p0, p1, pm, e0, e1⟩ := okB_all ha
  obtain ⟨q0, q1, qm, f0, f1⟩ := okB_all hb
  obtain ⟨X, hX⟩ := Int.eq_ofNat_of_zero_le (show 0 ≤ a.p + a.e by omega)
  obtain ⟨Y, hY⟩ := Int.eq_ofNat_of_zero_le (show 0 ≤ b.p + b.e by omega)
  have hX' : X < 256 ^ 2 := by omega
  have hY' : Y < 256 ^ 2 := by omega
  unfold packL lessB
  rw [bytesLess_append _ _ _ _ (by simp [putL_length]), six_cmp xa xb, hX, hY, Int.toNat_natCast, Int.toNat_natCast, less_putL_fits X Y 2 hX' hY']
  have hp : ((putL X 2 == putL Y 2) : Bool) = decide (X = Y) := by
    rw [Bool.eq_iff_iff]
    simp only [beq_iff_eq, decide_eq_true_eq]
    exact ⟨fun h => putL_inj X Y 2 hX' hY' h, by rintro rfl; rfl⟩
  rw [hp]
  unfold numsB
  rw [cmpL_append [a.p, a.e] [b.p, b.e] _ _ rfl]
  simp only [cmpL]
  by_cases h1 : X < Y
  · have : a.p < b.p ∨ (a.p = b.p ∧ a.e < b.e) := by omega
    rcases this with q | ⟨q, r⟩
    · simp [h1, q]
    · simp [h1, q, r]
  · by_cases h2 : Y < X
    · have : b.p < a.p ∨ (a.p = b.p ∧ b.e < a.e) := by omega
      have h3 : ¬ X = Y := by omega
      rcases this with q | ⟨q, r⟩
      · have q' : ¬ a.p < b.p := by omega
        simp [h1, h3, q, q']
      · have r' : ¬ a.e < b.e := by omega
        simp [h1, h3, q, r, r']
    · have h3 : X = Y := by omega
      have q : a.p = b.p := by omega
      have r : a.e = b.e := by omega
      simp [h3, q, r]

theorem packL_eq {a b : Br} (ha : okB a = true) (hb : okB b = true) (xa : byB a) (xb : byB b) : packL a = packL b ↔ numsB a = numsB b := by
  obtain ⟨p0, p1, pm, e0, e1⟩ := okB_all ha
  obtain ⟨q0, q1, qm, f0, f1⟩ := okB_all hb
  obtain ⟨X, hX⟩ := Int.eq_ofNat_of_zero_le (show 0 ≤ a.p + a.e by omega)
  obtain ⟨Y, hY⟩ := Int.eq_ofNat_of_zero_le (show 0 ≤ b.p + b.e by omega)
  have hX' : X < 256 ^ 2 := by omega
  have hY' : Y < 256 ^ 2 := by omega
  constructor
  · intro h
    unfold packL at h
    obtain ⟨h1, h2⟩ := List.append_inj h (by simp [putL_length])
    rw [hX, hY, Int.toNat_natCast, Int.toNat_natCast] at h1
    have h3 := putL_inj X Y 2 hX' hY' h1
    have h4 : six a.a = six b.a := by
      simp only [six, List.map_cons, List.map_nil, List.cons.injEq, and_true] at h2 ⊢
      obtain ⟨g0, g1, g2, g3, g4, g5⟩ := h2
      exact ⟨(ofNat_eq _ _ (xa _) (xb _)).1 g0, (ofNat_eq _ _ (xa _) (xb _)).1 g1, (ofNat_eq _ _ (xa _) (xb _)).1 g2, (ofNat_eq _ _ (xa _) (xb _)).1 g3, (ofNat_eq _ _ (xa _) (xb _)).1 g4, (ofNat_eq _ _ (xa _) (xb _)).1 g5⟩
    unfold numsB
    rw [sixI_map, sixI_map, h4, show a.p = b.p by omega, show a.e = b.e by omega]
  · intro h
    unfold numsB at h
    obtain ⟨h1, h2⟩ := List.append_inj h rfl
    simp only [List.cons.injEq, and_true] at h1
    unfold packL
    rw [h1.1, h1.2, sixI_inj h2]


end Go.Proofs.YtocgnbbnaamjjaaGreatDoor

namespace Go.Proofs.YtocgnbbnaamjjaaGreatDoor
set_option linter.unusedVariables false

structure Fl where
  ch : Bool
  pr : Bool
  ro : Int
  le : Bool
  pa : Bool
  ag : Bool
  ac : Bool

structure Bp where
  k : Int
  f : Fl
  root : Br
  cost : Int
  snd : Br
  pp : Int
  pn : Int
  age : Int
  mx : Int
  hel : Int
  wai : Int

def zFl : Fl := ⟨false, false, 0, false, false, false, false⟩

/-- A Config's. -/
def cfF (f : Fl) : Fl := ⟨f.ch, false, 0, false, false, false, f.ac⟩

def okF (f : Fl) : Bool := decide (0 ≤ f.ro) && decide (f.ro ≤ 3)

/-- As a byte, and back. -/
def byF (f : Fl) : Nat := f.ch.toNat + 2 * f.pr.toNat + 4 * f.ro.toNat + 16 * f.le.toNat + 32 * f.pa.toNat + 64 * f.ag.toNat + 128 * f.ac.toNat

def ofF (n : Nat) : Fl := ⟨n % 2 == 1, n / 2 % 2 == 1, ((n / 4 % 4 : Nat) : Int), n / 16 % 2 == 1, n / 32 % 2 == 1, n / 64 % 2 == 1, n / 128 % 2 == 1⟩

theorem okF_all {f : Fl} (h : okF f = true) : 0 ≤ f.ro ∧ f.ro ≤ 3 := by simpa [okF] using h

theorem byF_lt (f : Fl) (h : okF f = true) : byF f < 256 := by
  obtain ⟨h0, h1⟩ := okF_all h
  have b := fun x : Bool => (show x.toNat ≤ 1 by cases x <;> decide)
  have := b f.ch; have := b f.pr; have := b f.le; have := b f.pa; have := b f.ag; have := b f.ac
  unfold byF
  omega

theorem okF_of (n : Nat) : okF (ofF n) = true := by
  have : n / 4 % 4 < 4 := Nat.mod_lt _ (by decide)
  have h0 : (0 : Int) ≤ ((n / 4 % 4 : Nat) : Int) := Int.natCast_nonneg _
  have h1 : ((n / 4 % 4 : Nat) : Int) ≤ 3 := by omega
  show (decide ((0 : Int) ≤ ((n / 4 % 4 : Nat) : Int)) && decide (((n / 4 % 4 : Nat) : Int) ≤ 3)) = true
  rw [decide_eq_true h0, decide_eq_true h1]
  rfl

theorem bit_nat (n : Nat) : (n % 2 == 1).toNat = n % 2 := by
  rcases Nat.mod_two_eq_zero_or_one n with h | h <;> rw [h] <;> rfl

theorem byF_of (n : Nat) (h : n < 256) : byF (ofF n) = n := by
  unfold byF ofF
  simp only [bit_nat, Int.toNat_natCast]
  omega

theorem ofF_by (f : Fl) (h : okF f = true) : ofF (byF f) = f := by
  obtain ⟨h0, h1⟩ := okF_all h
  obtain ⟨ch, pr, ro, le, pa, ag, ac⟩ := f
  obtain ⟨r, hr⟩ := Int.eq_ofNat_of_zero_le h0
  simp only at h1 hr
  subst hr
  have : r = 0 ∨ r = 1 ∨ r = 2 ∨ r = 3 := by omega
  unfold ofF byF
  simp only [Fl.mk.injEq]
  rcases this with rfl | rfl | rfl | rfl <;> cases ch <;> cases pr <;> cases le <;> cases pa <;> cases ag <;> cases ac <;> decide

/-- What a Config or Rapid message has beside its flags may be. -/
def okTm (b : Bp) : Bool := fitI 2 b.age && (fitI 2 b.mx && (fitI 2 b.hel && fitI 2 b.wai))

def okBd (b : Bp) : Bool := okB b.root && (okB b.snd && (okPt b.pp b.pn && (fitI 4 b.cost && okTm b)))

def z6b : Nat → Nat := fun _ => 0

def zBp : Bp := ⟨0, zFl, ⟨0, 0, z6b⟩, 0, ⟨0, 0, z6b⟩, 0, 0, 0, 0, 0, 0⟩

/-- The Notice. -/
def nBp : Bp := ⟨2, zFl, ⟨0, 0, z6b⟩, 0, ⟨0, 0, z6b⟩, 0, 0, 0, 0, 0, 0⟩

/-- Its bytes behind the head. -/
def pprL (p n : Int) : List UInt8 := putL (256 * p + n).toNat 2

def tmL (b : Bp) : List UInt8 := putL b.age.toNat 2 ++ (putL b.mx.toNat 2 ++ (putL b.hel.toNat 2 ++ putL b.wai.toNat 2))

def bodyL (b : Bp) : List UInt8 := putL (byF b.f) 1 ++ (packL b.root ++ (putL b.cost.toNat 4 ++ (packL b.snd ++ (pprL b.pp b.pn ++ tmL b))))

theorem bodyL_len (b : Bp) : (bodyL b).length = 31 := by simp [bodyL, tmL, pprL, putL_length, packL_len]

/-- Its bytes. -/
def writeL (b : Bp) : List UInt8 := if b.k = 1 then [0, 0, 0, 0] ++ bodyL b else if b.k = 3 then [0, 0, 2, 2] ++ (bodyL b ++ [0]) else [0, 0, 0, 128]

end Go.Proofs.YtocgnbbnaamjjaaGreatDoor

namespace Go.Proofs.YtocgnbbnaamjjaaGreatDoor
set_option linter.unusedVariables false

/-- What is told of one instance. -/
structure Ins where
  f : Fl
  root : Br
  cost : Int
  br : Int
  pt : Int
  hop : Int

/-- A message, but its instances. -/
structure Ms where
  base : Bp
  name : ByteArray
  rev : Int
  dig : ByteArray
  cost : Int
  br : Br
  hop : Int

def zIns : Ins := ⟨zFl, ⟨0, 0, z6b⟩, 0, 0, 0, 0⟩

instance : Inhabited Ins := ⟨zIns⟩

def zMs : Ms := ⟨zBp, ⟨#[]⟩, 0, ⟨#[]⟩, 0, ⟨0, 0, z6b⟩, 0⟩

def byIns (x : Ins) : Prop := byB x.root

def rkI (v : Int) : Bool := decide (0 ≤ v) && decide (v ≤ 15)

theorem rkI_all {v : Int} (h : rkI v = true) : 0 ≤ v ∧ v ≤ 15 := by simpa [rkI] using h

/-- What may be. -/
def okIns (x : Ins) : Bool := okF x.f && (okB x.root && (fitI 4 x.cost && (rkI x.br && (rkI x.pt && fitI 1 x.hop))))

def tz (s : ByteArray) : Bool := s.data.toList.getLast? == some 0

def okMs0 (m : Ms) : Bool := fitI 2 m.rev && (decide (m.dig.size = 16) && (fitI 4 m.cost && (okB m.br && fitI 1 m.hop)))

/-- The bytes of an instance. -/
def insL (x : Ins) : List UInt8 := putL (byF x.f) 1 ++ (packL x.root ++ (putL x.cost.toNat 4 ++ (putL (16 * x.br).toNat 1 ++ (putL (16 * x.pt).toNat 1 ++ putL x.hop.toNat 1))))

theorem insL_len (x : Ins) : (insL x).length = 16 := by simp [insL, putL_length, packL_len]

/-- The bytes of all. -/
def inssL (l : List Ins) : List UInt8 := l.flatMap insL

theorem inssL_len (l : List Ins) : (inssL l).length = 16 * l.length := by
  unfold inssL
  induction l with
  | nil => rfl
  | cons x l ih =>
    rw [List.flatMap_cons, List.length_append, insL_len, ih, List.length_cons]
    omega

theorem inssL_snoc (l : List Ins) (k : Nat) (h : k < l.length) : inssL (l.take (k + 1)) = inssL (l.take k) ++ insL l[k] := by
  unfold inssL
  rw [List.take_add_one, List.getElem?_eq_getElem h, List.flatMap_append]
  simp

def padL (s : ByteArray) : List UInt8 := s.data.toList ++ List.replicate (32 - s.size) 0

theorem padL_len (s : ByteArray) (h : s.size ≤ 32) : (padL s).length = 32 := by
  unfold padL
  rw [List.length_append, List.length_replicate]
  have : s.data.toList.length = s.size := by simp
  omega

def okRp (b : Bp) : Bool := okF b.f && okBd b

/-- What may be: a message with its instances. -/
def okMs (m : Ms) (l : List Ins) : Bool := (m.base.k == 3) && (okRp m.base && (decide (m.name.size ≤ 32) && (!tz m.name && (okMs0 m && (decide (l.length ≤ 64) && l.all okIns)))))

/-- Its bytes. -/
def headM (m : Ms) (n : Nat) : List UInt8 := [0, 0, 3, 2] ++ (bodyL m.base ++ ([0] ++ (putL (64 + 16 * n) 2 ++ ([0] ++ (padL m.name ++ (putL m.rev.toNat 2 ++ (m.dig.data.toList ++ (putL m.cost.toNat 4 ++ (packL m.br ++ putL m.hop.toNat 1)))))))))

def writeM (m : Ms) (l : List Ins) : List UInt8 := headM m l.length ++ inssL l

theorem okMs_all {m : Ms} {l : List Ins} (h : okMs m l = true) : m.base.k = 3 ∧ okRp m.base = true ∧ m.name.size ≤ 32 ∧ tz m.name = false ∧ fitI 2 m.rev = true ∧ m.dig.size = 16 ∧ fitI 4 m.cost = true ∧ okB m.br = true ∧ fitI 1 m.hop = true ∧ l.length ≤ 64 ∧ l.all okIns = true := by
  simp only [okMs, okMs0, Bool.and_eq_true, beq_iff_eq, decide_eq_true_eq, Bool.not_eq_true'] at h
  obtain ⟨h0, h1, h2, h3, ⟨h4, h5, h6, h7, h8⟩, h9, h10⟩ := h
  exact ⟨h0, h1, h2, h3, h4, h5, h6, h7, h8, h9, h10⟩

theorem headM_len (m : Ms) (n : Nat) (h1 : m.name.size ≤ 32) (h2 : m.dig.size = 16) : (headM m n).length = 102 := by
  have h3 : m.dig.data.toList.length = m.dig.size := by simp
  unfold headM
  simp only [List.length_append, putL_length, packL_len, bodyL_len, padL_len m.name h1, h3, h2, List.length_cons, List.length_nil]

theorem writeM_len (m : Ms) (l : List Ins) (h1 : m.name.size ≤ 32) (h2 : m.dig.size = 16) : (writeM m l).length = 102 + 16 * l.length := by
  unfold writeM
  rw [List.length_append, headM_len m _ h1 h2, inssL_len]

end Go.Proofs.YtocgnbbnaamjjaaGreatDoor

namespace Go.Proofs.YtocgnbbnaamjjaaGreatDoor
open Go.RowKit
set_option linter.unusedVariables false

/-- The cells of a bridge's name, of a port's, of a vector. -/
def brC (b : Br) : Array Value := #[.int .i64 b.p, .int .i64 b.e, .int .u8 (b.a 0), .int .u8 (b.a 1), .int .u8 (b.a 2), .int .u8 (b.a 3), .int .u8 (b.a 4), .int .u8 (b.a 5)]

def ptC (p n : Int) : Array Value := #[.int .i64 p, .int .i64 n]

def veC (v : Ve) : Array Value := #[.int .i64 v.root.p, .int .i64 v.root.e, .int .u8 (v.root.a 0), .int .u8 (v.root.a 1), .int .u8 (v.root.a 2), .int .u8 (v.root.a 3), .int .u8 (v.root.a 4), .int .u8 (v.root.a 5),
  .int .i64 v.cost, .int .i64 v.sender.p, .int .i64 v.sender.e, .int .u8 (v.sender.a 0), .int .u8 (v.sender.a 1), .int .u8 (v.sender.a 2), .int .u8 (v.sender.a 3), .int .u8 (v.sender.a 4), .int .u8 (v.sender.a 5),
  .int .i64 v.pp, .int .i64 v.pn, .int .i64 v.ap, .int .i64 v.an]

def zBr : Br := ⟨0, 0, z6⟩

def zVe : Ve := ⟨zBr, 0, zBr, 0, 0, 0, 0⟩

/-- The bytes of a vector's addresses are bytes. -/
def byV (v : Ve) : Prop := (∀ i, v.root.a i < 256) ∧ ∀ i, v.sender.a i < 256

theorem br_cells {w : World} {B : Nat} {T : TypeId} {b : Br} (h : Blk w B T (brC b)) : w.cell? ⟨B, 0, none⟩ = some (.int .i64 b.p) ∧ w.cell? ⟨B, 1, none⟩ = some (.int .i64 b.e) ∧ w.cell? ⟨B, 2, none⟩ = some (.int .u8 (b.a 0)) ∧ w.cell? ⟨B, 3, none⟩ = some (.int .u8 (b.a 1)) ∧ w.cell? ⟨B, 4, none⟩ = some (.int .u8 (b.a 2)) ∧ w.cell? ⟨B, 5, none⟩ = some (.int .u8 (b.a 3)) ∧ w.cell? ⟨B, 6, none⟩ = some (.int .u8 (b.a 4)) ∧ w.cell? ⟨B, 7, none⟩ = some (.int .u8 (b.a 5)) :=
  ⟨h.c 0, h.c 1, h.c 2, h.c 3, h.c 4, h.c 5, h.c 6, h.c 7⟩

theorem Tryz.brZero : (Tryz.prog.info? 55).map (·.zero) = some (some (.agg (brC zBr))) := by kernel_rfl

/-- Two variables made. -/
theorem two_blks (w : World) (T U : TypeId) (C D : Array Value) : Blk ((w.alloc (.cells C T)).alloc (.cells D U)) w.heap.size T C ∧ Blk ((w.alloc (.cells C T)).alloc (.cells D U)) (w.heap.size + 1) U D ∧ Below w.heap.size w ((w.alloc (.cells C T)).alloc (.cells D U)) := by
  have h := Blk.new (w.alloc (.cells C T)) U D
  rw [show (w.alloc (.cells C T)).heap.size = w.heap.size + 1 by simp] at h
  exact ⟨(Blk.new w T C).alloc _, h, ((Below.refl _ _).alloc (Nat.le_refl _) _).alloc (by simp) _⟩

end Go.Proofs.YtocgnbbnaamjjaaGreatDoor

namespace Go.Proofs.YtocgnbbnaamjjaaGreatDoor
open Go.RowKit
set_option linter.unusedVariables false
set_option maxRecDepth 100000

theorem Tryz.u8oneV : Tryz.prog.cellsOf 5 = 1 := by kernel_rfl

theorem Tryz.u8infoV : ∃ i, Tryz.prog.info? 5 = some i := Option.isSome_iff_exists.1 (by kernel_rfl)

theorem run_eql_ad (d : Nat) (x y : Nat → Nat) (w : World) : (Op.equalIn (d + 2) 42 (.agg (c6 x)) (.agg (c6 y))).run Tryz.prog w = .ok (eqN 6 x y) w := by
  obtain ⟨i, hi⟩ := Tryz.u8infoV
  refine run_eql_ints w d 6 42 5 .u8 .u8 i Tryz.underlying42 Tryz.underlying5 hi Tryz.u8oneV (fun i => (x i : Int)) (fun i => (y i : Int)) _ _ (fun j hj => ?_)
  have : j = 0 ∨ j = 1 ∨ j = 2 ∨ j = 3 ∨ j = 4 ∨ j = 5 := by omega
  rcases this with rfl | rfl | rfl | rfl | rfl | rfl <;> exact ⟨rfl, rfl⟩

/-- Equal, field by field. -/
def eqB (a b : Br) : Bool := (a.p == b.p) && ((a.e == b.e) && eqN 6 a.a b.a)

structure Pt where
  p : Int
  n : Int

def pC (p : Pt) : Array Value := ptC p.p p.n

def eqP (a b : Pt) : Bool := (a.p == b.p) && (a.n == b.n)

def eqV (a b : Ve) : Bool := eqB a.root b.root && ((a.cost == b.cost) && (eqB a.sender b.sender && (eqP ⟨a.pp, a.pn⟩ ⟨b.pp, b.pn⟩ && eqP ⟨a.ap, a.an⟩ ⟨b.ap, b.an⟩)))

theorem run_eql_br (d : Nat) (a b : Br) (w : World) : (Op.equalIn (d + 3) 55 (.agg (brC a)) (.agg (brC b))).run Tryz.prog w = .ok (eqB a b) w := by
  have hs : Tryz.prog.stoodInHeld 55 = false := by kernel_rfl
  have hu : Tryz.prog.underlying 55 = some (.struct (Tryz.prog.fieldsOf 55)) := by kernel_rfl
  have hf : (Tryz.prog.fieldsOf 55).toList.map (fun f => (f.name == "_", f.type, f.offset)) = [(false, 3, 0), (false, 3, 1), (false, 42, 2)] := by kernel_rfl
  rw [run_equalIn_agg w (d + 2) 55 _ _ hu hs]
  obtain ⟨f0, l0, h0, g0, hf⟩ := List.map_eq_cons_iff.1 hf
  obtain ⟨f1, l1, rfl, g1, hf⟩ := List.map_eq_cons_iff.1 hf
  obtain ⟨f2, l2, rfl, g2, hf⟩ := List.map_eq_cons_iff.1 hf
  obtain rfl := List.map_eq_nil_iff.1 hf
  rw [h0]
  have e0 := run_equalIn_int (P := Tryz.prog) w (d + 1) 3 .i64 .i64 (a.p) (b.p) Tryz.underlying3
  have e1 := run_equalIn_int (P := Tryz.prog) w (d + 1) 3 .i64 .i64 (a.e) (b.e) Tryz.underlying3
  have e2 := run_eql_ad (d + 0) a.a b.a w
  have h := run_eqFields_cons w (d + 2) (brC a) (brC b) f0 _ _ _ _ _ _ _ g0 (run_part_one w _ _ 0 _ (by kernel_rfl) rfl) (run_part_one w _ _ 0 _ (by kernel_rfl) rfl) e0
    (run_eqFields_cons w (d + 2) (brC a) (brC b) f1 _ _ _ _ _ _ _ g1 (run_part_one w _ _ 1 _ (by kernel_rfl) rfl) (run_part_one w _ _ 1 _ (by kernel_rfl) rfl) e1
    (run_eqFields_cons w (d + 2) (brC a) (brC b) f2 _ _ _ _ _ _ _ g2 (run_part_agg w _ _ 2 6 (c6 a.a) (by kernel_rfl) (by kernel_rfl) rfl) (run_part_agg w _ _ 2 6 (c6 b.a) (by kernel_rfl) (by kernel_rfl) rfl) e2
    (run_eqFields_nil w (d + 2) _ _)))
  rw [Bool.and_true] at h
  exact h

theorem run_eql_pt (d : Nat) (a b : Pt) (w : World) : (Op.equalIn (d + 3) 57 (.agg (pC a)) (.agg (pC b))).run Tryz.prog w = .ok (eqP a b) w := by
  have hs : Tryz.prog.stoodInHeld 57 = false := by kernel_rfl
  have hu : Tryz.prog.underlying 57 = some (.struct (Tryz.prog.fieldsOf 57)) := by kernel_rfl
  have hf : (Tryz.prog.fieldsOf 57).toList.map (fun f => (f.name == "_", f.type, f.offset)) = [(false, 3, 0), (false, 3, 1)] := by kernel_rfl
  rw [run_equalIn_agg w (d + 2) 57 _ _ hu hs]
  obtain ⟨f0, l0, h0, g0, hf⟩ := List.map_eq_cons_iff.1 hf
  obtain ⟨f1, l1, rfl, g1, hf⟩ := List.map_eq_cons_iff.1 hf
  obtain rfl := List.map_eq_nil_iff.1 hf
  rw [h0]
  have e0 := run_equalIn_int (P := Tryz.prog) w (d + 1) 3 .i64 .i64 (a.p) (b.p) Tryz.underlying3
  have e1 := run_equalIn_int (P := Tryz.prog) w (d + 1) 3 .i64 .i64 (a.n) (b.n) Tryz.underlying3
  have h := run_eqFields_cons w (d + 2) (pC a) (pC b) f0 _ _ _ _ _ _ _ g0 (run_part_one w _ _ 0 _ (by kernel_rfl) rfl) (run_part_one w _ _ 0 _ (by kernel_rfl) rfl) e0
    (run_eqFields_cons w (d + 2) (pC a) (pC b) f1 _ _ _ _ _ _ _ g1 (run_part_one w _ _ 1 _ (by kernel_rfl) rfl) (run_part_one w _ _ 1 _ (by kernel_rfl) rfl) e1
    (run_eqFields_nil w (d + 2) _ _))
  rw [Bool.and_true] at h
  exact h



theorem eqN6 (x y : Nat → Nat) : eqN 6 x y = decide (sixI x = sixI y) := by
  rw [Bool.eq_iff_iff]
  simp [eqN, sixI, List.range_succ]

theorem eqB_iff (a b : Br) : eqB a b = decide (numsB a = numsB b) := by
  rw [Bool.eq_iff_iff]
  simp [eqB, eqN6, numsB]

theorem eqV_iff (a b : Ve) : eqV a b = decide (lineV a = lineV b) := by
  rw [Bool.eq_iff_iff, decide_eq_true_iff]
  simp only [eqV, eqB_iff, eqP, Bool.and_eq_true, decide_eq_true_iff, beq_iff_eq]
  constructor
  · rintro ⟨h1, h2, h3, ⟨h4, h5⟩, h6, h7⟩
    unfold lineV
    rw [h1, h2, h3, h4, h5, h6, h7]
  · intro h
    unfold lineV at h
    obtain ⟨h1, h⟩ := List.append_inj h rfl
    obtain ⟨h2, h⟩ := List.append_inj h rfl
    obtain ⟨h3, h⟩ := List.append_inj h rfl
    simp only [List.cons.injEq, and_true] at h h2
    exact ⟨h1, h2, h3, ⟨h.1, h.2.1⟩, h.2.2⟩

theorem eqB_refl (a : Br) : eqB a a = true := by rw [eqB_iff]; simp

theorem eqV_refl (a : Ve) : eqV a a = true := by rw [eqV_iff]; simp

/-- The cells of names with the same numbers. -/
theorem brC_nums {a b : Br} (h : numsB a = numsB b) : brC a = brC b := by
  simp only [numsB, sixI, List.cons_append, List.nil_append, List.cons.injEq, Int.natCast_inj, and_true] at h
  obtain ⟨h0, h1, h2, h3, h4, h5, h6, h7⟩ := h
  simp only [brC, h0, h1, h2, h3, h4, h5, h6, h7]

end Go.Proofs.YtocgnbbnaamjjaaGreatDoor

namespace Go.Proofs.YtocgnbbnaamjjaaGreatDoor
open Go.RowKit
set_option linter.unusedVariables false
set_option maxRecDepth 100000

def flC (f : Fl) : Array Value := #[.bool f.ch, .bool f.pr, .int .i64 f.ro, .bool f.le, .bool f.pa, .bool f.ag, .bool f.ac]

def bpC (b : Bp) : Array Value := #[.int .i64 b.k, .bool b.f.ch, .bool b.f.pr, .int .i64 b.f.ro, .bool b.f.le, .bool b.f.pa, .bool b.f.ag, .bool b.f.ac,
  .int .i64 b.root.p, .int .i64 b.root.e, .int .u8 (b.root.a 0), .int .u8 (b.root.a 1), .int .u8 (b.root.a 2), .int .u8 (b.root.a 3), .int .u8 (b.root.a 4), .int .u8 (b.root.a 5), .int .i64 b.cost,
  .int .i64 b.snd.p, .int .i64 b.snd.e, .int .u8 (b.snd.a 0), .int .u8 (b.snd.a 1), .int .u8 (b.snd.a 2), .int .u8 (b.snd.a 3), .int .u8 (b.snd.a 4), .int .u8 (b.snd.a 5),
  .int .i64 b.pp, .int .i64 b.pn, .int .i64 b.age, .int .i64 b.mx, .int .i64 b.hel, .int .i64 b.wai]

theorem Tryz.flZero : (Tryz.prog.info? 53).map (·.zero) = some (some (.agg (flC zFl))) := by kernel_rfl

theorem Tryz.bpZero : (Tryz.prog.info? 59).map (·.zero) = some (some (.agg (bpC zBp))) := by kernel_rfl

def eqFl (a b : Fl) : Bool := (a.ch == b.ch) && ((a.pr == b.pr) && ((a.ro == b.ro) && ((a.le == b.le) && ((a.pa == b.pa) && ((a.ag == b.ag) && ((a.ac == b.ac)))))))

def eqBp (a b : Bp) : Bool := (a.k == b.k) && (eqFl a.f b.f && (eqB a.root b.root && ((a.cost == b.cost) && (eqB a.snd b.snd && (eqP ⟨a.pp, a.pn⟩ ⟨b.pp, b.pn⟩ && ((a.age == b.age) && ((a.mx == b.mx) && ((a.hel == b.hel) && (a.wai == b.wai)))))))))

theorem run_eql_fl (d : Nat) (a b : Fl) (w : World) : (Op.equalIn (d + 3) 53 (.agg (flC a)) (.agg (flC b))).run Tryz.prog w = .ok (eqFl a b) w := by
  have hs : Tryz.prog.stoodInHeld 53 = false := by kernel_rfl
  have hu : Tryz.prog.underlying 53 = some (.struct (Tryz.prog.fieldsOf 53)) := by kernel_rfl
  have hf : (Tryz.prog.fieldsOf 53).toList.map (fun f => (f.name == "_", f.type, f.offset)) = [(false, 4, 0), (false, 4, 1), (false, 3, 2), (false, 4, 3), (false, 4, 4), (false, 4, 5), (false, 4, 6)] := by kernel_rfl
  rw [run_equalIn_agg w (d + 2) 53 _ _ hu hs]
  obtain ⟨f0, l0, h0, g0, hf⟩ := List.map_eq_cons_iff.1 hf
  obtain ⟨f1, l1, rfl, g1, hf⟩ := List.map_eq_cons_iff.1 hf
  obtain ⟨f2, l2, rfl, g2, hf⟩ := List.map_eq_cons_iff.1 hf
  obtain ⟨f3, l3, rfl, g3, hf⟩ := List.map_eq_cons_iff.1 hf
  obtain ⟨f4, l4, rfl, g4, hf⟩ := List.map_eq_cons_iff.1 hf
  obtain ⟨f5, l5, rfl, g5, hf⟩ := List.map_eq_cons_iff.1 hf
  obtain ⟨f6, l6, rfl, g6, hf⟩ := List.map_eq_cons_iff.1 hf
  obtain rfl := List.map_eq_nil_iff.1 hf
  rw [h0]
  have e0 := run_equalIn_bool (P := Tryz.prog) w (d + 1) 4 (a.ch) (b.ch) Tryz.underlying4
  have e1 := run_equalIn_bool (P := Tryz.prog) w (d + 1) 4 (a.pr) (b.pr) Tryz.underlying4
  have e2 := run_equalIn_int (P := Tryz.prog) w (d + 1) 3 .i64 .i64 (a.ro) (b.ro) Tryz.underlying3
  have e3 := run_equalIn_bool (P := Tryz.prog) w (d + 1) 4 (a.le) (b.le) Tryz.underlying4
  have e4 := run_equalIn_bool (P := Tryz.prog) w (d + 1) 4 (a.pa) (b.pa) Tryz.underlying4
  have e5 := run_equalIn_bool (P := Tryz.prog) w (d + 1) 4 (a.ag) (b.ag) Tryz.underlying4
  have e6 := run_equalIn_bool (P := Tryz.prog) w (d + 1) 4 (a.ac) (b.ac) Tryz.underlying4
  have h := run_eqFields_cons w (d + 2) (flC a) (flC b) f0 _ _ _ _ _ _ _ g0 (run_part_one w _ _ 0 _ (by kernel_rfl) rfl) (run_part_one w _ _ 0 _ (by kernel_rfl) rfl) e0
    (run_eqFields_cons w (d + 2) (flC a) (flC b) f1 _ _ _ _ _ _ _ g1 (run_part_one w _ _ 1 _ (by kernel_rfl) rfl) (run_part_one w _ _ 1 _ (by kernel_rfl) rfl) e1
    (run_eqFields_cons w (d + 2) (flC a) (flC b) f2 _ _ _ _ _ _ _ g2 (run_part_one w _ _ 2 _ (by kernel_rfl) rfl) (run_part_one w _ _ 2 _ (by kernel_rfl) rfl) e2
    (run_eqFields_cons w (d + 2) (flC a) (flC b) f3 _ _ _ _ _ _ _ g3 (run_part_one w _ _ 3 _ (by kernel_rfl) rfl) (run_part_one w _ _ 3 _ (by kernel_rfl) rfl) e3
    (run_eqFields_cons w (d + 2) (flC a) (flC b) f4 _ _ _ _ _ _ _ g4 (run_part_one w _ _ 4 _ (by kernel_rfl) rfl) (run_part_one w _ _ 4 _ (by kernel_rfl) rfl) e4
    (run_eqFields_cons w (d + 2) (flC a) (flC b) f5 _ _ _ _ _ _ _ g5 (run_part_one w _ _ 5 _ (by kernel_rfl) rfl) (run_part_one w _ _ 5 _ (by kernel_rfl) rfl) e5
    (run_eqFields_cons w (d + 2) (flC a) (flC b) f6 _ _ _ _ _ _ _ g6 (run_part_one w _ _ 6 _ (by kernel_rfl) rfl) (run_part_one w _ _ 6 _ (by kernel_rfl) rfl) e6
    (run_eqFields_nil w (d + 2) _ _)))))))
  rw [Bool.and_true] at h
  exact h

theorem run_eql_bp (d : Nat) (a b : Bp) (w : World) : (Op.equalIn (d + 4) 59 (.agg (bpC a)) (.agg (bpC b))).run Tryz.prog w = .ok (eqBp a b) w := by
  have hs : Tryz.prog.stoodInHeld 59 = false := by kernel_rfl
  have hu : Tryz.prog.underlying 59 = some (.struct (Tryz.prog.fieldsOf 59)) := by kernel_rfl
  have hf : (Tryz.prog.fieldsOf 59).toList.map (fun f => (f.name == "_", f.type, f.offset)) = [(false, 3, 0), (false, 53, 1), (false, 55, 8), (false, 3, 16), (false, 55, 17), (false, 57, 25), (false, 3, 27), (false, 3, 28), (false, 3, 29), (false, 3, 30)] := by kernel_rfl
  rw [run_equalIn_agg w (d + 3) 59 _ _ hu hs]
  obtain ⟨f0, l0, h0, g0, hf⟩ := List.map_eq_cons_iff.1 hf
  obtain ⟨f1, l1, rfl, g1, hf⟩ := List.map_eq_cons_iff.1 hf
  obtain ⟨f2, l2, rfl, g2, hf⟩ := List.map_eq_cons_iff.1 hf
  obtain ⟨f3, l3, rfl, g3, hf⟩ := List.map_eq_cons_iff.1 hf
  obtain ⟨f4, l4, rfl, g4, hf⟩ := List.map_eq_cons_iff.1 hf
  obtain ⟨f5, l5, rfl, g5, hf⟩ := List.map_eq_cons_iff.1 hf
  obtain ⟨f6, l6, rfl, g6, hf⟩ := List.map_eq_cons_iff.1 hf
  obtain ⟨f7, l7, rfl, g7, hf⟩ := List.map_eq_cons_iff.1 hf
  obtain ⟨f8, l8, rfl, g8, hf⟩ := List.map_eq_cons_iff.1 hf
  obtain ⟨f9, l9, rfl, g9, hf⟩ := List.map_eq_cons_iff.1 hf
  obtain rfl := List.map_eq_nil_iff.1 hf
  rw [h0]
  have e0 := run_equalIn_int (P := Tryz.prog) w (d + 2) 3 .i64 .i64 (a.k) (b.k) Tryz.underlying3
  have e1 := run_eql_fl (d + 0) a.f b.f w
  have e2 := run_eql_br (d + 0) a.root b.root w
  have e3 := run_equalIn_int (P := Tryz.prog) w (d + 2) 3 .i64 .i64 (a.cost) (b.cost) Tryz.underlying3
  have e4 := run_eql_br (d + 0) a.snd b.snd w
  have e5 := run_eql_pt (d + 0) ⟨a.pp, a.pn⟩ ⟨b.pp, b.pn⟩ w
  have e6 := run_equalIn_int (P := Tryz.prog) w (d + 2) 3 .i64 .i64 (a.age) (b.age) Tryz.underlying3
  have e7 := run_equalIn_int (P := Tryz.prog) w (d + 2) 3 .i64 .i64 (a.mx) (b.mx) Tryz.underlying3
  have e8 := run_equalIn_int (P := Tryz.prog) w (d + 2) 3 .i64 .i64 (a.hel) (b.hel) Tryz.underlying3
  have e9 := run_equalIn_int (P := Tryz.prog) w (d + 2) 3 .i64 .i64 (a.wai) (b.wai) Tryz.underlying3
  have h := run_eqFields_cons w (d + 3) (bpC a) (bpC b) f0 _ _ _ _ _ _ _ g0 (run_part_one w _ _ 0 _ (by kernel_rfl) rfl) (run_part_one w _ _ 0 _ (by kernel_rfl) rfl) e0
    (run_eqFields_cons w (d + 3) (bpC a) (bpC b) f1 _ _ _ _ _ _ _ g1 (run_part_agg w _ _ 1 7 (flC a.f) (by kernel_rfl) (by kernel_rfl) rfl) (run_part_agg w _ _ 1 7 (flC b.f) (by kernel_rfl) (by kernel_rfl) rfl) e1
    (run_eqFields_cons w (d + 3) (bpC a) (bpC b) f2 _ _ _ _ _ _ _ g2 (run_part_agg w _ _ 8 8 (brC a.root) (by kernel_rfl) (by kernel_rfl) rfl) (run_part_agg w _ _ 8 8 (brC b.root) (by kernel_rfl) (by kernel_rfl) rfl) e2
    (run_eqFields_cons w (d + 3) (bpC a) (bpC b) f3 _ _ _ _ _ _ _ g3 (run_part_one w _ _ 16 _ (by kernel_rfl) rfl) (run_part_one w _ _ 16 _ (by kernel_rfl) rfl) e3
    (run_eqFields_cons w (d + 3) (bpC a) (bpC b) f4 _ _ _ _ _ _ _ g4 (run_part_agg w _ _ 17 8 (brC a.snd) (by kernel_rfl) (by kernel_rfl) rfl) (run_part_agg w _ _ 17 8 (brC b.snd) (by kernel_rfl) (by kernel_rfl) rfl) e4
    (run_eqFields_cons w (d + 3) (bpC a) (bpC b) f5 _ _ _ _ _ _ _ g5 (run_part_agg w _ _ 25 2 (pC ⟨a.pp, a.pn⟩) (by kernel_rfl) (by kernel_rfl) rfl) (run_part_agg w _ _ 25 2 (pC ⟨b.pp, b.pn⟩) (by kernel_rfl) (by kernel_rfl) rfl) e5
    (run_eqFields_cons w (d + 3) (bpC a) (bpC b) f6 _ _ _ _ _ _ _ g6 (run_part_one w _ _ 27 _ (by kernel_rfl) rfl) (run_part_one w _ _ 27 _ (by kernel_rfl) rfl) e6
    (run_eqFields_cons w (d + 3) (bpC a) (bpC b) f7 _ _ _ _ _ _ _ g7 (run_part_one w _ _ 28 _ (by kernel_rfl) rfl) (run_part_one w _ _ 28 _ (by kernel_rfl) rfl) e7
    (run_eqFields_cons w (d + 3) (bpC a) (bpC b) f8 _ _ _ _ _ _ _ g8 (run_part_one w _ _ 29 _ (by kernel_rfl) rfl) (run_part_one w _ _ 29 _ (by kernel_rfl) rfl) e8
    (run_eqFields_cons w (d + 3) (bpC a) (bpC b) f9 _ _ _ _ _ _ _ g9 (run_part_one w _ _ 30 _ (by kernel_rfl) rfl) (run_part_one w _ _ 30 _ (by kernel_rfl) rfl) e9
    (run_eqFields_nil w (d + 3) _ _))))))))))
  rw [Bool.and_true] at h
  exact h

theorem eqFl_iff (a b : Fl) : eqFl a b = true ↔ a = b := by
  cases a; cases b
  simp [eqFl]

theorem eqB_self (a : Br) : eqB a a = true := by simp [eqB, eqN]

theorem eqFl_self (a : Fl) : eqFl a a = true := by simp [eqFl]

theorem eqBp_self (a : Bp) : eqBp a a = true := by simp [eqBp, eqB_self, eqFl_self, eqP]

/-- Two ways to say which flags a Config has. -/
theorem cfg_ways (f : Fl) : eqFl ⟨false, f.pr, f.ro, f.le, f.pa, f.ag, false⟩ zFl = eqFl f (cfF f) := by
  cases f
  simp [eqFl, cfF, zFl]

theorem not_ways (b : Bp) (h : b.k = 2) : eqBp ⟨0, b.f, b.root, b.cost, b.snd, b.pp, b.pn, b.age, b.mx, b.hel, b.wai⟩ zBp = eqBp b nBp := by
  simp [eqBp, zBp, nBp, h]

/-- What may be. -/
def okBp (b : Bp) : Bool := if b.k = 1 then eqFl b.f (cfF b.f) && okBd b else if b.k = 2 then eqBp b nBp else if b.k = 3 then okF b.f && okBd b else false

end Go.Proofs.YtocgnbbnaamjjaaGreatDoor

namespace Go.Proofs.YtocgnbbnaamjjaaGreatDoor
open Go.RowKit
attribute [local go_sem ↓] Go.wp_at_zero Go.wp_at_succ
set_option linter.unusedSimpArgs false
set_option linter.unusedVariables false
set_option maxRecDepth 100000

/-- The bytes of its addresses are bytes; its numbers have 64 bits. -/
def byBp (b : Bp) : Prop := byB b.root ∧ byB b.snd

def rgBp (b : Bp) : Prop := i64R b.cost ∧ i64R b.age ∧ i64R b.mx ∧ i64R b.hel ∧ i64R b.wai



end Go.Proofs.YtocgnbbnaamjjaaGreatDoor

namespace Go.Proofs.YtocgnbbnaamjjaaGreatDoor
open Go.RowKit
set_option linter.unusedVariables false
set_option maxRecDepth 100000

def inC (x : Ins) : Array Value := #[.bool x.f.ch, .bool x.f.pr, .int .i64 x.f.ro, .bool x.f.le, .bool x.f.pa, .bool x.f.ag, .bool x.f.ac,
  .int .i64 x.root.p, .int .i64 x.root.e, .int .u8 (x.root.a 0), .int .u8 (x.root.a 1), .int .u8 (x.root.a 2), .int .u8 (x.root.a 3), .int .u8 (x.root.a 4), .int .u8 (x.root.a 5), .int .i64 x.cost, .int .i64 x.br, .int .i64 x.pt, .int .i64 x.hop]

def msC (m : Ms) (v : Value) : Array Value := #[.int .i64 m.base.k, .bool m.base.f.ch, .bool m.base.f.pr, .int .i64 m.base.f.ro, .bool m.base.f.le, .bool m.base.f.pa, .bool m.base.f.ag, .bool m.base.f.ac, .int .i64 m.base.root.p, .int .i64 m.base.root.e, .int .u8 (m.base.root.a 0), .int .u8 (m.base.root.a 1), .int .u8 (m.base.root.a 2), .int .u8 (m.base.root.a 3), .int .u8 (m.base.root.a 4), .int .u8 (m.base.root.a 5), .int .i64 m.base.cost, .int .i64 m.base.snd.p, .int .i64 m.base.snd.e, .int .u8 (m.base.snd.a 0), .int .u8 (m.base.snd.a 1), .int .u8 (m.base.snd.a 2), .int .u8 (m.base.snd.a 3), .int .u8 (m.base.snd.a 4), .int .u8 (m.base.snd.a 5), .int .i64 m.base.pp, .int .i64 m.base.pn, .int .i64 m.base.age, .int .i64 m.base.mx, .int .i64 m.base.hel, .int .i64 m.base.wai,
  .string m.name, .int .i64 m.rev, .string m.dig, .int .i64 m.cost, .int .i64 m.br.p, .int .i64 m.br.e, .int .u8 (m.br.a 0), .int .u8 (m.br.a 1), .int .u8 (m.br.a 2), .int .u8 (m.br.a 3), .int .u8 (m.br.a 4), .int .u8 (m.br.a 5), .int .i64 m.hop, v]

theorem Tryz.inZero : (Tryz.prog.info? 105).map (·.zero) = some (some (.agg (inC zIns))) := by kernel_rfl

theorem Tryz.msZero : (Tryz.prog.info? 62).map (·.zero) = some (some (.agg (msC zMs (.slice none 0 0)))) := by kernel_rfl

def eqIn (a b : Ins) : Bool := eqFl a.f b.f && (eqB a.root b.root && ((a.cost == b.cost) && ((a.br == b.br) && ((a.pt == b.pt) && (a.hop == b.hop)))))

theorem run_eql_in (d : Nat) (a b : Ins) (w : World) : (Op.equalIn (d + 4) 105 (.agg (inC a)) (.agg (inC b))).run Tryz.prog w = .ok (eqIn a b) w := by
  have hs : Tryz.prog.stoodInHeld 105 = false := by kernel_rfl
  have hu : Tryz.prog.underlying 105 = some (.struct (Tryz.prog.fieldsOf 105)) := by kernel_rfl
  have hf : (Tryz.prog.fieldsOf 105).toList.map (fun f => (f.name == "_", f.type, f.offset)) = [(false, 53, 0), (false, 55, 7), (false, 3, 15), (false, 3, 16), (false, 3, 17), (false, 3, 18)] := by kernel_rfl
  rw [run_equalIn_agg w (d + 3) 105 _ _ hu hs]
  obtain ⟨f0, l0, h0, g0, hf⟩ := List.map_eq_cons_iff.1 hf
  obtain ⟨f1, l1, rfl, g1, hf⟩ := List.map_eq_cons_iff.1 hf
  obtain ⟨f2, l2, rfl, g2, hf⟩ := List.map_eq_cons_iff.1 hf
  obtain ⟨f3, l3, rfl, g3, hf⟩ := List.map_eq_cons_iff.1 hf
  obtain ⟨f4, l4, rfl, g4, hf⟩ := List.map_eq_cons_iff.1 hf
  obtain ⟨f5, l5, rfl, g5, hf⟩ := List.map_eq_cons_iff.1 hf
  obtain rfl := List.map_eq_nil_iff.1 hf
  rw [h0]
  have e0 := run_eql_fl (d + 0) a.f b.f w
  have e1 := run_eql_br (d + 0) a.root b.root w
  have e2 := run_equalIn_int (P := Tryz.prog) w (d + 2) 3 .i64 .i64 (a.cost) (b.cost) Tryz.underlying3
  have e3 := run_equalIn_int (P := Tryz.prog) w (d + 2) 3 .i64 .i64 (a.br) (b.br) Tryz.underlying3
  have e4 := run_equalIn_int (P := Tryz.prog) w (d + 2) 3 .i64 .i64 (a.pt) (b.pt) Tryz.underlying3
  have e5 := run_equalIn_int (P := Tryz.prog) w (d + 2) 3 .i64 .i64 (a.hop) (b.hop) Tryz.underlying3
  have h := run_eqFields_cons w (d + 3) (inC a) (inC b) f0 _ _ _ _ _ _ _ g0 (run_part_agg w _ _ 0 7 (flC a.f) (by kernel_rfl) (by kernel_rfl) rfl) (run_part_agg w _ _ 0 7 (flC b.f) (by kernel_rfl) (by kernel_rfl) rfl) e0
    (run_eqFields_cons w (d + 3) (inC a) (inC b) f1 _ _ _ _ _ _ _ g1 (run_part_agg w _ _ 7 8 (brC a.root) (by kernel_rfl) (by kernel_rfl) rfl) (run_part_agg w _ _ 7 8 (brC b.root) (by kernel_rfl) (by kernel_rfl) rfl) e1
    (run_eqFields_cons w (d + 3) (inC a) (inC b) f2 _ _ _ _ _ _ _ g2 (run_part_one w _ _ 15 _ (by kernel_rfl) rfl) (run_part_one w _ _ 15 _ (by kernel_rfl) rfl) e2
    (run_eqFields_cons w (d + 3) (inC a) (inC b) f3 _ _ _ _ _ _ _ g3 (run_part_one w _ _ 16 _ (by kernel_rfl) rfl) (run_part_one w _ _ 16 _ (by kernel_rfl) rfl) e3
    (run_eqFields_cons w (d + 3) (inC a) (inC b) f4 _ _ _ _ _ _ _ g4 (run_part_one w _ _ 17 _ (by kernel_rfl) rfl) (run_part_one w _ _ 17 _ (by kernel_rfl) rfl) e4
    (run_eqFields_cons w (d + 3) (inC a) (inC b) f5 _ _ _ _ _ _ _ g5 (run_part_one w _ _ 18 _ (by kernel_rfl) rfl) (run_part_one w _ _ 18 _ (by kernel_rfl) rfl) e5
    (run_eqFields_nil w (d + 3) _ _))))))
  rw [Bool.and_true] at h
  exact h

theorem eqIn_self (a : Ins) : eqIn a a = true := by simp [eqIn, eqFl_self, eqB_self]

def InAt (w : World) (b o : Nat) (l : List Ins) : Prop := ∀ j (hj : j < l.length), CellsAt w b (o + j * 19) (inC l[j])

def InIn (w : World) (a : Option Addr) (l : List Ins) : Prop := l = [] ∨ ∃ b o, a = some ⟨b, o, none⟩ ∧ b < w.heap.size ∧ InAt w b o l

theorem InAt.below {w w' : World} {b o D : Nat} {l : List Ins} (h : InAt w b o l) (hb : Below D w w') (hB : b < D) : InAt w' b o l := fun j hj => (h j hj).below hb hB

theorem InIn.below {w w' : World} {a : Option Addr} {l : List Ins} (h : InIn w a l) (hb : Below w.heap.size w w') : InIn w' a l := by
  rcases h with h | ⟨b, o, h1, h2, h3⟩
  · exact Or.inl h
  · exact Or.inr ⟨b, o, h1, Nat.lt_of_lt_of_le h2 hb.size, fun j hj => (h3 j hj).below hb h2⟩

theorem InIn.drew {w : World} {a : Option Addr} {l : List Ins} (h : InIn w a l) : InIn w.drew a l := h

theorem InIn.at {w : World} {a : Option Addr} {l : List Ins} (h : InIn w a l) {k : Nat} (hk : k < l.length) : ∃ b o, a = some ⟨b, o, none⟩ ∧ b < w.heap.size ∧ InAt w b o l := by
  rcases h with rfl | h
  · simp at hk
  · exact h

theorem okBp_three {b : Bp} (h : b.k = 3) : okBp b = okRp b := by
  unfold okBp okRp
  rw [if_neg (by omega), if_neg (by omega), if_pos h]

/-- Numbers of 64 bits. -/
def rgIn (x : Ins) : Prop := i64R x.cost ∧ i64R x.hop

def rgMs (m : Ms) : Prop := i64R m.rev ∧ i64R m.cost ∧ i64R m.hop

end Go.Proofs.YtocgnbbnaamjjaaGreatDoor

namespace Go.Proofs.YtocgnbbnaamjjaaGreatDoor
open Go.RowKit
attribute [local go_sem ↓] Go.wp_at_zero Go.wp_at_succ
set_option linter.unusedSimpArgs false
set_option linter.unusedVariables false
set_option maxRecDepth 100000

theorem eqNil_str (w : World) : Calls Tryz.prog 21 #[.slice none 0 0, .slice none 0 0] w fun e w' => e = .returned (.bool true) ∧ w = w' := by
  go_enter Tryz.func21, Tryz.ntmps21
  go_wp2_with fail
  refine wp_loop_once ?_
  go_wp2
  go_ret
  exact ⟨rfl, rfl⟩

theorem eqNil_caps (w : World) : Calls Tryz.prog 22 #[.slice none 0 0, .slice none 0 0] w fun e w' => e = .returned (.bool true) ∧ w = w' := by
  go_enter Tryz.func22, Tryz.ntmps22
  go_wp2_with fail
  refine wp_loop_once ?_
  go_wp2
  go_ret
  exact ⟨rfl, rfl⟩

theorem eqNil_man (w : World) : Calls Tryz.prog 23 #[.slice none 0 0, .slice none 0 0] w fun e w' => e = .returned (.bool true) ∧ w = w' := by
  go_enter Tryz.func23, Tryz.ntmps23
  go_wp2_with fail
  refine wp_loop_once ?_
  go_wp2
  go_ret
  exact ⟨rfl, rfl⟩

theorem eqNil_org (w : World) : Calls Tryz.prog 24 #[.slice none 0 0, .slice none 0 0] w fun e w' => e = .returned (.bool true) ∧ w = w' := by
  go_enter Tryz.func24, Tryz.ntmps24
  go_wp2_with fail
  refine wp_loop_once ?_
  go_wp2
  go_ret
  exact ⟨rfl, rfl⟩

theorem eqNil_tag (w : World) : Calls Tryz.prog 44 #[.slice none 0 0, .slice none 0 0] w fun e w' => e = .returned (.bool true) ∧ w = w' := by
  go_enter Tryz.func44, Tryz.ntmps44
  go_wp2_with fail
  refine wp_loop_once ?_
  go_wp2
  go_ret
  exact ⟨rfl, rfl⟩

theorem eqNil_attr (v : Value) (w : World) : Calls Tryz.prog 45 #[.slice none 0 0, .slice none 0 0, v] w fun e w' => e = .returned (.bool true) ∧ w = w' := by
  go_enter Tryz.func45, Tryz.ntmps45
  go_wp2_with fail
  refine wp_loop_once ?_
  go_wp2
  go_ret
  exact ⟨rfl, rfl⟩

theorem sameAttrs_nil (w : World) : Calls Tryz.prog 25 #[.slice none 0 0, .slice none 0 0] w fun e w' => e = .returned (.bool true) ∧ w = w' := by
  go_enter Tryz.func25, Tryz.ntmps25
  go_wp2_with fail
  refine (eqNil_attr _ _).mono ?_
  rintro e w1 ⟨rfl, rfl⟩
  go_wp2
  go_ret
  exact ⟨rfl, rfl⟩

/-- A frame of nothing. -/
def zFr : Array Value := #[.int .u8 0, .int .u8 0, .int .u8 0, .int .u8 0, .int .u8 0, .int .u8 0, .int .u8 0, .int .u8 0, .int .u8 0, .int .u8 0, .int .u8 0, .int .u8 0, .slice none 0 0, .int .i64 0, .int .i64 0, .int .i64 0, .int .i64 0, .int .i64 0, .int .i64 0, .int .i64 0, .string ⟨#[]⟩]

theorem addr_same0 (W : World) : (Op.equalIn 10000 42 (.agg (c6 z6)) (.agg (c6 z6))).run Tryz.prog W = .ok true W := by kernel_rfl

set_option maxHeartbeats 6400000 in
theorem frameSame_nil (w : World) : Calls Tryz.prog 19 #[.agg zFr, .agg zFr] w fun e w' => e = .returned (.bool true) ∧ Below w.heap.size w w' := by
  have hs0 := addr_same0
  go_enter Tryz.func19, Tryz.ntmps19
  go_upto_region 1 with (first
    | (refine box_blk (o := ⟨some 2, _, _, _, _, _⟩) 45 zFr (by rfl) (by rfl) rfl ?_; intro w1 HA1 B1)
    | (refine box_blk (o := ⟨some 3, _, _, _, _, _⟩) 45 zFr (by rfl) (by rfl) rfl ?_; intro w2 HB2 b2; have HA2 := HA1.kept b2; have B2 := B1.trans (b2.mono B1.size)))
  (try simp only [Act.put, List.setIfInBounds_toArray, List.set_cons_zero, List.set_cons_succ])
  have hAl := HA2.lt
  have hBl := HB2.lt
  clear HA1 B1 b2
  generalize w1.heap.size = B at *
  have L : ∀ (A : Nat), Blk w2 A 45 zFr → ∀ k v, zFr[k]? = some v → w2.cell? ⟨A, k, none⟩ = some v := fun A h k v hk => h.cv k v hk
  have p13 := L _ HA2 13 (.int .i64 0) rfl
  have p14 := L _ HA2 14 (.int .i64 0) rfl
  have p15 := L _ HA2 15 (.int .i64 0) rfl
  have p16 := L _ HA2 16 (.int .i64 0) rfl
  have p17 := L _ HA2 17 (.int .i64 0) rfl
  have p18 := L _ HA2 18 (.int .i64 0) rfl
  have p19 := L _ HA2 19 (.int .i64 0) rfl
  have p20 := L _ HA2 20 (.string ⟨#[]⟩) rfl
  have p12 := L _ HA2 12 (.slice none 0 0) rfl
  have q13 := L _ HB2 13 (.int .i64 0) rfl
  have q14 := L _ HB2 14 (.int .i64 0) rfl
  have q15 := L _ HB2 15 (.int .i64 0) rfl
  have q16 := L _ HB2 16 (.int .i64 0) rfl
  have q17 := L _ HB2 17 (.int .i64 0) rfl
  have q18 := L _ HB2 18 (.int .i64 0) rfl
  have q19 := L _ HB2 19 (.int .i64 0) rfl
  have q20 := L _ HB2 20 (.string ⟨#[]⟩) rfl
  have q12 := L _ HB2 12 (.slice none 0 0) rfl
  clear L
  refine wp_region_lit ?_
  simp only [List.append_eq, List.cons_append, List.nil_append]
  go_wp2_with (first
    | (refine load_blk (B := w.heap.size) (k := 0) 42 (c6 z6) (by rfl) rfl rfl HA2 (by kernel_rfl) (by kernel_rfl) rfl ?_)
    | (refine load_blk (B := B) (k := 0) 42 (c6 z6) (by rfl) rfl rfl HB2 (by kernel_rfl) (by kernel_rfl) rfl ?_)
    | (refine load_blk (B := w.heap.size) (k := 6) 42 (c6 z6) (by rfl) rfl rfl HA2 (by kernel_rfl) (by kernel_rfl) rfl ?_)
    | (refine load_blk (B := B) (k := 6) 42 (c6 z6) (by rfl) rfl rfl HB2 (by kernel_rfl) (by kernel_rfl) rfl ?_))
  refine (eqNil_tag _).mono ?_
  rintro e w3 ⟨rfl, rfl⟩
  go_wp2
  go_ret
  exact ⟨rfl, B2⟩

end Go.Proofs.YtocgnbbnaamjjaaGreatDoor

namespace Go.Proofs.YtocgnbbnaamjjaaGreatDoor
open Go.RowKit
attribute [local go_sem ↓] Go.wp_at_zero Go.wp_at_succ
set_option linter.unusedSimpArgs false
set_option linter.unusedVariables false
set_option maxRecDepth 100000

theorem in_same (x : Ins) (W : World) : (Op.equalIn 10000 105 (.agg (inC x)) (.agg (inC x))).run Tryz.prog W = .ok true W := by
  have h := run_eql_in 9996 x x W
  rw [eqIn_self] at h
  exact h

theorem CellsAt.drewC {w : World} {B o : Nat} {X : Array Value} (h : CellsAt w B o X) : CellsAt w.drew B o X := h

set_option maxHeartbeats 6400000 in
theorem eqIns_any (a1 : Option Addr) (c1 : Nat) (a2 : Option Addr) (c2 : Nat) (l : List Ins) (w : World) (h1 : InIn w a1 l) (h2 : InIn w a2 l) (hlen : l.length ≤ 1000000) :
    Calls Tryz.prog 20 #[.slice a1 l.length c1, .slice a2 l.length c2] w fun e w' => e = .returned (.bool true) ∧ Below w.heap.size w w' := by
  go_enter Tryz.func20, Tryz.ntmps20
  go_wp2_with fail
  go_loopw [13] (fun i wr => ∃ k : Nat, k ≤ l.length ∧ i = .int .i64 k ∧ Below w.heap.size w wr) (fun i _ => l.length - (intOf i).toNat)
  case atStart => exact ⟨0, by omega, rfl, Below.refl _ _⟩
  case round =>
    obtain ⟨k, hk, rfl, hb⟩ := hrel
    by_cases hlt : k < l.length
    · obtain ⟨b1, o1, rfl, hb1, hat1⟩ := h1.at hlt
      obtain ⟨b2, o2, rfl, hb2, hat2⟩ := h2.at hlt
      have q1 : (k : Int) < (l.length : Int) := by omega
      have q2 : decide ((k : Int) < (l.length : Int)) = true := decide_eq_true q1
      have q3 : (0 : Int) ≤ (k : Int) := by omega
      have HK1 := (hat1 k hlt).below hb hb1
      have HK2 := (hat2 k hlt).below hb hb2
      have HEQ := fun W => in_same l[k] W
      generalize l[k] = x at *
      go_upto_region 6 with (fail)
      refine wp_region_noPanic ?_
      refine wp_region_held_drew (S := (fun w' => CellsAt w' b1 (o1 + k * 19) (inC x) ∧ CellsAt w' b2 (o2 + k * 19) (inC x))) (by kernel_rfl) ?_ (fun hHeld => ?_)
      · exact ⟨HK1.drewC, HK2.drewC⟩
      refine wpAnyH_take (i := 0) (v := ?_) rfl (by kernel_rfl) (by kernel_rfl) (by kernel_rfl) (fun _ _ _ h => h) (Or.inl ⟨by rfl, ?_⟩) (by assumption) ?_
      rotate_left
      · (intro w hSw; (try dsimp only at hSw); go_simp; (try with_reducible rfl))
      (try simp only [Act.put, List.getElem_toArray, List.getElem_cons_zero, List.getElem_cons_succ, List.setIfInBounds_toArray, List.set_cons_zero, List.set_cons_succ])
      refine wpAnyH_take (i := 1) (v := ?_) rfl (by kernel_rfl) (by kernel_rfl) (by kernel_rfl) (fun _ _ _ h => h) (Or.inl ⟨by rfl, ?_⟩) (by assumption) ?_
      rotate_left
      · (intro w hSw; (try dsimp only at hSw); go_simp; (try with_reducible rfl))
      (try simp only [Act.put, List.getElem_toArray, List.getElem_cons_zero, List.getElem_cons_succ, List.setIfInBounds_toArray, List.set_cons_zero, List.set_cons_succ])
      refine wpAnyH_take (i := 2) (v := ?_) rfl (by kernel_rfl) (by kernel_rfl) (by kernel_rfl) (fun _ _ _ h => h) (Or.inl ⟨by rfl, ?_⟩) (by assumption) ?_
      rotate_left
      · (intro w hSw; (try dsimp only at hSw); go_simp; (try with_reducible rfl))
      (try simp only [Act.put, List.getElem_toArray, List.getElem_cons_zero, List.getElem_cons_succ, List.setIfInBounds_toArray, List.set_cons_zero, List.set_cons_succ])
      refine wpAnyH_take (i := 3) (v := .agg (inC x)) rfl (by kernel_rfl) (by kernel_rfl) (by kernel_rfl) (fun _ _ _ h => h) (Or.inl ⟨by rfl, fun w hSw => exec_load_cells 105 (inC x) rfl rfl hSw.1 (by kernel_rfl) (by kernel_rfl)⟩) (by assumption) ?_
      (try simp only [Act.put, List.getElem_toArray, List.getElem_cons_zero, List.getElem_cons_succ, List.setIfInBounds_toArray, List.set_cons_zero, List.set_cons_succ])
      refine wpAnyH_take (i := 4) (v := ?_) rfl (by kernel_rfl) (by kernel_rfl) (by kernel_rfl) (fun _ _ _ h => h) (Or.inl ⟨by rfl, ?_⟩) (by assumption) ?_
      rotate_left
      · (intro w hSw; (try dsimp only at hSw); go_simp; (try with_reducible rfl))
      (try simp only [Act.put, List.getElem_toArray, List.getElem_cons_zero, List.getElem_cons_succ, List.setIfInBounds_toArray, List.set_cons_zero, List.set_cons_succ])
      refine wpAnyH_take (i := 5) (v := ?_) rfl (by kernel_rfl) (by kernel_rfl) (by kernel_rfl) (fun _ _ _ h => h) (Or.inl ⟨by rfl, ?_⟩) (by assumption) ?_
      rotate_left
      · (intro w hSw; (try dsimp only at hSw); go_simp; (try with_reducible rfl))
      (try simp only [Act.put, List.getElem_toArray, List.getElem_cons_zero, List.getElem_cons_succ, List.setIfInBounds_toArray, List.set_cons_zero, List.set_cons_succ])
      refine wpAnyH_take (i := 6) (v := ?_) rfl (by kernel_rfl) (by kernel_rfl) (by kernel_rfl) (fun _ _ _ h => h) (Or.inl ⟨by rfl, ?_⟩) (by assumption) ?_
      rotate_left
      · (intro w hSw; (try dsimp only at hSw); go_simp; (try with_reducible rfl))
      (try simp only [Act.put, List.getElem_toArray, List.getElem_cons_zero, List.getElem_cons_succ, List.setIfInBounds_toArray, List.set_cons_zero, List.set_cons_succ])
      refine wpAnyH_take (i := 7) (v := .agg (inC x)) rfl (by kernel_rfl) (by kernel_rfl) (by kernel_rfl) (fun _ _ _ h => h) (Or.inl ⟨by rfl, fun w hSw => exec_load_cells 105 (inC x) rfl rfl hSw.2 (by kernel_rfl) (by kernel_rfl)⟩) (by assumption) ?_
      (try simp only [Act.put, List.getElem_toArray, List.getElem_cons_zero, List.getElem_cons_succ, List.setIfInBounds_toArray, List.set_cons_zero, List.set_cons_succ])
      refine wpAnyH_take (i := 8) (v := .bool false) rfl (by kernel_rfl) (by kernel_rfl) (by kernel_rfl) (fun _ _ _ h => h) (Or.inl ⟨by rfl, fun w hSw => exec_eq_agg .neq 105 (inC x) (inC x) true rfl (Or.inr rfl) rfl rfl (by kernel_rfl) (HEQ w)⟩) (by assumption) ?_
      (try simp only [Act.put, List.getElem_toArray, List.getElem_cons_zero, List.getElem_cons_succ, List.setIfInBounds_toArray, List.set_cons_zero, List.set_cons_succ])
      refine wpAnyH_done (by kernel_rfl) ?_ _
      refine NoPanic.normal ?_
      have hbd := hb.drew
      go_wp2
      go_roundw
      case rel => exact ⟨k + 1, by omega, by go_num, hbd⟩
      case measure => simp [intOf]; omega
    · obtain rfl : k = l.length := by omega
      have q2 : decide ((l.length : Int) < (l.length : Int)) = false := decide_eq_false (by omega)
      go_wp2
      go_ret
      exact ⟨rfl, hb⟩

end Go.Proofs.YtocgnbbnaamjjaaGreatDoor

namespace Go.Proofs.YtocgnbbnaamjjaaGreatDoor
open Go.RowKit
attribute [local go_sem ↓] Go.wp_at_zero Go.wp_at_succ
set_option linter.unusedSimpArgs false
set_option linter.unusedVariables false
set_option maxRecDepth 100000





/-- A number in a cell of its own. -/
def One (w : World) (B : Nat) (n : Int) : Prop := Blk w B 3 #[.int .i64 n]

theorem and1 : ∀ y : Nat, y < 256 → bits .and .i64 (y : Int) 1 = ((y % 2 : Nat) : Int) := by decide +kernel

theorem and3 : ∀ y : Nat, y < 256 → bits .and .i64 (y : Int) 3 = ((y % 4 : Nat) : Int) := by decide +kernel

theorem cast_one (a : Nat) : (((a % 2 : Nat) : Int) == 1) = (a % 2 == 1) := by
  rcases Nat.mod_two_eq_zero_or_one a with h | h <;> rw [h] <;> rfl





end Go.Proofs.YtocgnbbnaamjjaaGreatDoor

namespace Go.Proofs.YtocgnbbnaamjjaaGreatDoor
open Go.RowKit
attribute [local go_sem ↓] Go.wp_at_zero Go.wp_at_succ
set_option linter.unusedSimpArgs false
set_option linter.unusedVariables false
set_option maxRecDepth 100000

theorem exec_build_blk {P : Program} {a : Act} {o : Oper} {w : World} {t : TypeId} {parts : Array (Nat × Operand)} (X : Array Value) (ho : o.op = .build t parts)
    (hf : P.built t (parts.map fun (i, x) => (i, a.eval x)).toList = some X) : (execOp a.eval o).run P w = .ok (.value (.agg X)) w := by
  have h1 := run_build (P := P) w t (parts.map fun (i, x) => (i, a.eval x)) X hf
  unfold execOp
  simp only [ho, Sem.run_bind, Result.andThen_ok, h1, Sem.run_pure]





end Go.Proofs.YtocgnbbnaamjjaaGreatDoor

