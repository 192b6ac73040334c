/- Texts one behind the other. errors.As at a target of type *api.Errno, and api.Tell: the Errno of nil, of an Errno, and of an *api.At. errors.As at a target of type *api.Errno: an Errno is found; an *api.At by its Unwrap. api.Tell, plain.Place, and what the laws make of them, at nil, at an Errno, and at an *api.At. switchyardkeep.LldpBack is true at every announcement. -/
import Derived.Test.YtcijhmbimbejfaaGreatDoorLbK1
import Derived.Test.YtcijhmbimbejfaaGreatDoorLbK10
import Derived.LaidEql
import Derived.Stop.Asserts
import Derived.RowKitTokens
import Derived.Lib.Hide
namespace Go.Proofs.YtcijhmbimbejfaaGreatDoor
open Go.RowKit Go.Extern.Stop Go.Stop Go.Extern

/-! Closed facts on the entries for internal/reflectlite at this program's types. -/
theorem Tryz.rlValueOfPE (t : Addr) (w : World) : (ReflectliteValue.unpack (.iface 127 (.pointer (some t)))).run Tryz.prog w
    = .ok (.agg #[.pointer (some ⟨4, 127, none⟩), .pointer (some ⟨w.heap.size, 0, none⟩), .int .u64 150]) (w.alloc (.cells #[.pointer (some t)] 127)) := by kernel_rfl
theorem Tryz.rlTypePE (a : Addr) (w : World) : (ReflectliteValue.methodAny (ReflectliteValue.valueError "reflectlite.Value.Type" 0) (fun t _ _ _ => ReflectliteType.toType t) #[.agg #[.pointer (some ⟨4, 127, none⟩), .pointer (some a), .int .u64 150]]).run Tryz.prog w
    = .ok (.iface 207 (.agg #[.pointer (some ⟨4, 127, none⟩)])) w := by kernel_rfl
theorem Tryz.rlMethodKind (h : Value) (w : World) : (Go.method 370 207 (.agg #[h]) "Kind").run Tryz.prog w = .ok (146, h) w := by kernel_rfl
theorem Tryz.rlKindPE (w : World) : ((ReflectliteType.abiMethod fun t => (fun a : Nat => Value.int IntKind.u8 (a : Int)) <$> Rtype.kind t) #[.pointer (some ⟨4, 127, none⟩)]).run Tryz.prog w = .ok (.int .u8 22) w := by kernel_rfl
theorem Tryz.rlKindE (w : World) : ((ReflectliteType.abiMethod fun t => (fun a : Nat => Value.int IntKind.u8 (a : Int)) <$> Rtype.kind t) #[.pointer (some ⟨4, 30, none⟩)]).run Tryz.prog w = .ok (.int .u8 2) w := by kernel_rfl
theorem Tryz.rlPartsPE (a : Addr) (w : World) : (ReflectliteValue.parts (.agg #[.pointer (some ⟨4, 127, none⟩), .pointer (some a), .int .u64 150])).run Tryz.prog w = .ok (some (127, a, 150)) w := by kernel_rfl
theorem Tryz.rlIsNilPE (a p : Addr) (W : World) (ha : W.cell? a = some (.pointer (some p))) :
    (ReflectliteValue.method (ReflectliteValue.valueError "reflectlite.Value.IsNil" 0) ReflectliteValue.isNil #[.agg #[.pointer (some ⟨4, 127, none⟩), .pointer (some a), .int .u64 150]]).run Tryz.prog W = .ok (.bool false) W := by
  change Sem.run _ (ReflectliteValue.parts (.agg #[.pointer (some ⟨4, 127, none⟩), .pointer (some a), .int .u64 150]) >>= _) _ = _
  simp only [Sem.run_bind, Tryz.rlPartsPE, Result.andThen]
  simp [ReflectliteValue.isNil, loadVar, isAgg, underlying, Tryz.underlying127, ha, Result.andThen]
theorem Tryz.rlMethodElem (h : Value) (w : World) : (Go.method 370 207 (.agg #[h]) "Elem").run Tryz.prog w = .ok (159, .agg #[h]) w := by kernel_rfl
theorem Tryz.rlMethodImplements (h : Value) (w : World) : (Go.method 370 207 (.agg #[h]) "Implements").run Tryz.prog w = .ok (160, .agg #[h]) w := by kernel_rfl
theorem Tryz.rlMethodAssignableTo (h : Value) (w : World) : (Go.method 370 207 (.agg #[h]) "AssignableTo").run Tryz.prog w = .ok (157, .agg #[h]) w := by kernel_rfl
theorem Tryz.rlElemPE (w : World) : (ReflectliteType.method ReflectliteType.elem #[.agg #[.pointer (some ⟨4, 127, none⟩)]]).run Tryz.prog w = .ok (.iface 207 (.agg #[.pointer (some ⟨4, 30, none⟩)])) w := by kernel_rfl
theorem Tryz.rlImplementsE (w : World) : (ReflectliteType.relation "Implements" ReflectliteType.implements_ #[.agg #[.pointer (some ⟨4, 30, none⟩)], .iface 207 (.agg #[.pointer (some ⟨4, 36, none⟩)])]).run Tryz.prog w = .ok (.bool true) w := by kernel_rfl
theorem Tryz.rlTypeOfE (v : Value) (w : World) : (ReflectliteType.typeOf #[.iface 30 v]).run Tryz.prog w = .ok (.iface 207 (.agg #[.pointer (some ⟨4, 30, none⟩)])) w := by kernel_rfl
theorem Tryz.rlTypeOfA (v : Value) (w : World) : (ReflectliteType.typeOf #[.iface 102 v]).run Tryz.prog w = .ok (.iface 207 (.agg #[.pointer (some ⟨4, 102, none⟩)])) w := by kernel_rfl
theorem Tryz.rlAssignableEE (w : World) : (ReflectliteType.relation "AssignableTo" ReflectliteType.assignableTo #[.agg #[.pointer (some ⟨4, 30, none⟩)], .iface 207 (.agg #[.pointer (some ⟨4, 30, none⟩)])]).run Tryz.prog w = .ok (.bool true) w := by kernel_rfl
theorem Tryz.rlAssignableAE (w : World) : (ReflectliteType.relation "AssignableTo" ReflectliteType.assignableTo #[.agg #[.pointer (some ⟨4, 102, none⟩)], .iface 207 (.agg #[.pointer (some ⟨4, 30, none⟩)])]).run Tryz.prog w = .ok (.bool false) w := by kernel_rfl
theorem Tryz.rlValueOfE (x : Int) (w : World) : (ReflectliteValue.unpack (.iface 30 (.int .i64 x))).run Tryz.prog w
    = .ok (.agg #[.pointer (some ⟨4, 30, none⟩), .pointer (some ⟨w.heap.size, 0, none⟩), .int .u64 130]) (w.alloc (.cells #[.int .i64 x] 30)) := by kernel_rfl
theorem Tryz.rlElemOfPE (w : World) : (Rtype.elem? 127).run Tryz.prog w = .ok (some 30) w := by kernel_rfl
theorem Tryz.rlMkE (p : Addr) (w : World) : (ReflectliteValue.mk 30 p ReflectliteValue.flagAddr).run Tryz.prog w = .ok (.agg #[.pointer (some ⟨4, 30, none⟩), .pointer (some p), .int .u64 386]) w := by kernel_rfl
theorem Tryz.rlElemVPE (a p : Addr) (W : World) (ha : W.cell? a = some (.pointer (some p))) :
    (ReflectliteValue.method (ReflectliteValue.valueError "reflectlite.Value.Elem" 0) ReflectliteValue.elem #[.agg #[.pointer (some ⟨4, 127, none⟩), .pointer (some a), .int .u64 150]]).run Tryz.prog W
      = .ok (.agg #[.pointer (some ⟨4, 30, none⟩), .pointer (some p), .int .u64 386]) W := by
  change Sem.run _ (ReflectliteValue.parts (.agg #[.pointer (some ⟨4, 127, none⟩), .pointer (some a), .int .u64 150]) >>= _) _ = _
  simp only [Sem.run_bind, Tryz.rlPartsPE, Result.andThen]
  simp [ReflectliteValue.elem, loadVar, isAgg, underlying, Tryz.underlying127, ha, Result.andThen, Tryz.rlElemOfPE, Tryz.rlMkE]
theorem Tryz.rlPartsEa (a : Addr) (w : World) : (ReflectliteValue.parts (.agg #[.pointer (some ⟨4, 30, none⟩), .pointer (some a), .int .u64 386])).run Tryz.prog w = .ok (some (30, a, 386)) w := by kernel_rfl
theorem Tryz.rlPartsE (a : Addr) (w : World) : (ReflectliteValue.parts (.agg #[.pointer (some ⟨4, 30, none⟩), .pointer (some a), .int .u64 130])).run Tryz.prog w = .ok (some (30, a, 130)) w := by kernel_rfl
theorem Tryz.rlDirectE (w : World) : (Rtype.directlyAssignable 30 30).run Tryz.prog w = .ok true w := by kernel_rfl
theorem Tryz.rlSizeE (w : World) : (sizeOf 30).run Tryz.prog w = .ok 1 w := by kernel_rfl
theorem Tryz.rlSetE (ta b : Addr) (x : Int) (old : Value) (W : World) (hb : W.cell? b = some (.int .i64 x)) (ht : W.cell? ta = some old) (hf : W.frozen? ta = false) :
    (ReflectliteValue.set #[.agg #[.pointer (some ⟨4, 30, none⟩), .pointer (some ta), .int .u64 386], .agg #[.pointer (some ⟨4, 30, none⟩), .pointer (some b), .int .u64 130]]).run Tryz.prog W
      = .ok (.tuple #[]) (W.setCell ta (.int .i64 x)) := by
  change Sem.run _ (ReflectliteValue.parts (.agg #[.pointer (some ⟨4, 30, none⟩), .pointer (some ta), .int .u64 386]) >>= fun _ => ReflectliteValue.parts (.agg #[.pointer (some ⟨4, 30, none⟩), .pointer (some b), .int .u64 130]) >>= _) _ = _
  simp only [Sem.run_bind, Tryz.rlPartsEa, Tryz.rlPartsE, Result.andThen]
  simp [ReflectliteValue.flagAddr, loadVar, isAgg, underlying, Tryz.underlying30, hb, Result.andThen, Tryz.rlDirectE, storeVar, Value.cells, storeCells, Addr.add]
  rw [run_store Tryz.prog W ta _ _ (by rfl)]
  simp [ht, hf]

end Go.Proofs.YtcijhmbimbejfaaGreatDoor

namespace Go.Proofs.YtcijhmbimbejfaaGreatDoor
open Go.RowKit Go.Extern.Stop Go.Stop Go.Extern

/-- The variable errors.errorType holds the type error's handle. -/
def HasErr (w : World) : Prop := w.cell? ⟨0, 0, none⟩ = some (.iface 207 (.agg #[.pointer (some ⟨4, 36, none⟩)]))

theorem HasErr.lt {w : World} (h : HasErr w) : 0 < w.heap.size := by
  rcases Nat.lt_or_ge 0 w.heap.size with h' | h'
  · exact h'
  · have : w.cell? ⟨0, 0, none⟩ = none := by simp [World.cell?, Array.getElem?_eq_none h']
    unfold HasErr at h
    rw [this] at h
    cases h
theorem HasErr.alloc {w : World} (h : HasErr w) (o : Obj) : HasErr (w.alloc o) := (World.cell?_alloc_lt _ _ _ h.lt).trans h
theorem HasErr.below {w w' : World} (h : HasErr w) (hb : Below w.heap.size w w') : HasErr w' := (hb.cell (p := ⟨0, 0, none⟩) h.lt).trans h

theorem as_nil (t : Value) (w : World) :
    Calls Tryz.prog 45 #[.nilIface, t] w fun e w' => e = .returned (.bool false) ∧ w' = w := by
  go_enter Tryz.func45, Tryz.ntmps45
  go_wp2
  go_ret
  exact ⟨rfl, rfl⟩

set_option maxHeartbeats 4000000 in
/-- errors.As, the error is an Errno: it is found. -/
theorem as_errno (x : Int) (t : Addr) (old : Value) (w : World) (hg : HasErr w) (ht0 : w.cell? t = some old) (hf0 : w.frozen? t = false) :
    Calls Tryz.prog 45 #[.iface 30 (.int .i64 x), .iface 127 (.pointer (some t))] w fun ev w' => ev = .returned (.bool true) ∧ ∃ w1, Below w.heap.size w w1 ∧ w' = w1.setCell t (.int .i64 x) := by
  have hVO := @run_callFunc_extern Tryz.prog 83 _ (fun args => ReflectliteValue.unpack (args.getD 0 (.tuple #[]))) Tryz.func83 (by kernel_rfl) (by kernel_rfl) (by kernel_rfl) (by kernel_rfl)
  have hTy := @run_callFunc_extern Tryz.prog 84 _ (ReflectliteValue.methodAny (ReflectliteValue.valueError "reflectlite.Value.Type" 0) (fun t _ _ _ => ReflectliteType.toType t)) Tryz.func84 (by kernel_rfl) (by kernel_rfl) (by kernel_rfl) (by kernel_rfl)
  have hIN := @run_callFunc_extern Tryz.prog 85 _ (ReflectliteValue.method (ReflectliteValue.valueError "reflectlite.Value.IsNil" 0) ReflectliteValue.isNil) Tryz.func85 (by kernel_rfl) (by kernel_rfl) (by kernel_rfl) (by kernel_rfl)
  have hKi := @run_callFunc_extern Tryz.prog 146 _ (ReflectliteType.abiMethod fun t => do pure (.int .u8 (← Rtype.kind t))) Tryz.func146 (by kernel_rfl) (by kernel_rfl) (by kernel_rfl) (by kernel_rfl)
  have hEl := @run_callFunc_extern Tryz.prog 159 _ (ReflectliteType.method ReflectliteType.elem) Tryz.func159 (by kernel_rfl) (by kernel_rfl) (by kernel_rfl) (by kernel_rfl)
  have hIm := @run_callFunc_extern Tryz.prog 160 _ (ReflectliteType.relation "Implements" ReflectliteType.implements_) Tryz.func160 (by kernel_rfl) (by kernel_rfl) (by kernel_rfl) (by kernel_rfl)
  have hTO := @run_callFunc_extern Tryz.prog 108 _ ReflectliteType.typeOf Tryz.func108 (by kernel_rfl) (by kernel_rfl) (by kernel_rfl) (by kernel_rfl)
  have hAT := @run_callFunc_extern Tryz.prog 157 _ (ReflectliteType.relation "AssignableTo" ReflectliteType.assignableTo) Tryz.func157 (by kernel_rfl) (by kernel_rfl) (by kernel_rfl) (by kernel_rfl)
  have hEV := @run_callFunc_extern Tryz.prog 109 _ (ReflectliteValue.method (ReflectliteValue.valueError "reflectlite.Value.Elem" 0) ReflectliteValue.elem) Tryz.func109 (by kernel_rfl) (by kernel_rfl) (by kernel_rfl) (by kernel_rfl)
  have hSe := @run_callFunc_extern Tryz.prog 110 _ ReflectliteValue.set Tryz.func110 (by kernel_rfl) (by kernel_rfl) (by kernel_rfl) (by kernel_rfl)
  have q1 := Tryz.rlValueOfPE
  have q2 := Tryz.rlTypePE
  have q3 := Tryz.rlMethodKind
  have q4 := Tryz.rlKindPE
  have q5 := Tryz.rlKindE
  have q6 := Tryz.rlMethodElem
  have q7 := Tryz.rlMethodImplements
  have q8 := Tryz.rlMethodAssignableTo
  have q9 := Tryz.rlElemPE
  have q10 := Tryz.rlImplementsE
  have q11 := Tryz.rlTypeOfE
  have q12 := Tryz.rlAssignableEE
  have q13 := Tryz.rlValueOfE
  have n8 := Tryz.rlIsNilPE ⟨w.heap.size, 0, none⟩ t ((w.alloc (.cells #[.pointer (some t)] 127)).alloc (.cells #[.pointer (some ⟨4, 127, none⟩), .pointer (some ⟨w.heap.size, 0, none⟩), .int .u64 150] 173)) (by simp)
  have hg2 : ((w.alloc (.cells #[.pointer (some t)] 127)).alloc (.cells #[.pointer (some ⟨4, 127, none⟩), .pointer (some ⟨w.heap.size, 0, none⟩), .int .u64 150] 173)).cell? ⟨0, 0, none⟩ = some (.iface 207 (.agg #[.pointer (some ⟨4, 36, none⟩)])) := (hg.alloc _).alloc _
  have htl : t.block < w.heap.size := by
    rcases Nat.lt_or_ge t.block w.heap.size with h | h
    · exact h
    · simp [World.cell?, Array.getElem?_eq_none h] at ht0
  have el := Tryz.rlElemVPE ⟨w.heap.size, 0, none⟩ t (((w.alloc (.cells #[.pointer (some t)] 127)).alloc (.cells #[.pointer (some ⟨4, 127, none⟩), .pointer (some ⟨w.heap.size, 0, none⟩), .int .u64 150] 173)).alloc (.cells #[.pointer (some ⟨4, 127, none⟩), .pointer (some ⟨w.heap.size, 0, none⟩), .int .u64 150] 173)) (by rw [World.cell?_alloc_lt _ _ ⟨w.heap.size, 0, none⟩ (by simp; omega)]; simp)
  have st := Tryz.rlSetE t ⟨w.heap.size + 1 + 1 + 1, 0, none⟩ x old ((((w.alloc (.cells #[.pointer (some t)] 127)).alloc (.cells #[.pointer (some ⟨4, 127, none⟩), .pointer (some ⟨w.heap.size, 0, none⟩), .int .u64 150] 173)).alloc (.cells #[.pointer (some ⟨4, 127, none⟩), .pointer (some ⟨w.heap.size, 0, none⟩), .int .u64 150] 173)).alloc (.cells #[.int .i64 x] 30))
    (by rw [World.cell?_alloc_at _ _ _ _ (by simp)]; rfl)
    (by rw [World.cell?_alloc_lt _ _ t (by simp; omega), World.cell?_alloc_lt _ _ t (by simp; omega), World.cell?_alloc_lt _ _ t (by simp; omega), World.cell?_alloc_lt _ _ t htl]; exact ht0)
    (by rw [World.frozen?_alloc_old _ _ t (by simp; omega), World.frozen?_alloc_old _ _ t (by simp; omega), World.frozen?_alloc_old _ _ t (by simp; omega), World.frozen?_alloc_old _ _ t (Nat.ne_of_lt htl)]; exact hf0)
  have hB : Below w.heap.size w ((((w.alloc (.cells #[.pointer (some t)] 127)).alloc (.cells #[.pointer (some ⟨4, 127, none⟩), .pointer (some ⟨w.heap.size, 0, none⟩), .int .u64 150] 173)).alloc (.cells #[.pointer (some ⟨4, 127, none⟩), .pointer (some ⟨w.heap.size, 0, none⟩), .int .u64 150] 173)).alloc (.cells #[.int .i64 x] 30)) := ((((Below.refl _ _).alloc (Nat.le_refl _) _).alloc (by simp) _).alloc (by simp; omega) _).alloc (by simp; omega) _
  have HB := Lib.hid hB
  clear hB
  go_enter Tryz.func45, Tryz.ntmps45
  go_wp2
  refine wp_loop_rounds 1 ?_
  rw [rounds_succ]
  go_wp2
  go_ret
  exact ⟨rfl, _, HB.out, rfl⟩
/-! What is asked of an *api.At: it has no As, it has an Unwrap. -/
theorem Tryz.noAsA (v : Value) (xT : TypeId) (w : World) : (Instr.typeAssert (.iface 102 v) xT 212 true).run Tryz.prog w = .ok (.tuple #[.nilIface, .bool false]) w :=
  run_typeAssert_lacksB Tryz.underlying212 (by kernel_rfl) (by kernel_rfl) v xT w
theorem Tryz.hasUnwrapA (v : Value) (xT : TypeId) (w : World) : (Instr.typeAssert (.iface 102 v) xT 146 true).run Tryz.prog w = .ok (.tuple #[.iface 102 v, .bool true]) w :=
  run_typeAssert_hasB Tryz.underlying146 (by kernel_rfl) v xT w
theorem Tryz.methodUnwrapA (a : Addr) (w : World) : (Go.method 370 102 (.pointer (some a)) "Unwrap").run Tryz.prog w = .ok (151, .pointer (some a)) w := by kernel_rfl
theorem Tryz.nilAheadA (a : Addr) (w : World) : (Go.nilAhead 370 102 (.pointer (some a)) "Unwrap").run Tryz.prog w = .ok (some false) w := by kernel_rfl

set_option maxHeartbeats 4000000 in
/-- errors.As, the error is an *api.At: its Unwrap is asked, and is an Errno. -/
theorem as_at (p : Nat) (x y : Int) (t : Addr) (old : Value) (w : World) (hp : Flt w p x y) (hg : HasErr w) (ht0 : w.cell? t = some old) (hf0 : w.frozen? t = false) :
    Calls Tryz.prog 45 #[.iface 102 (.pointer (some ⟨p, 0, none⟩)), .iface 127 (.pointer (some t))] w fun ev w' => ev = .returned (.bool true) ∧ ∃ w1, Below w.heap.size w w1 ∧ w' = w1.setCell t (.int .i64 x) := by
  have hVO := @run_callFunc_extern Tryz.prog 83 _ (fun args => ReflectliteValue.unpack (args.getD 0 (.tuple #[]))) Tryz.func83 (by kernel_rfl) (by kernel_rfl) (by kernel_rfl) (by kernel_rfl)
  have hTy := @run_callFunc_extern Tryz.prog 84 _ (ReflectliteValue.methodAny (ReflectliteValue.valueError "reflectlite.Value.Type" 0) (fun t _ _ _ => ReflectliteType.toType t)) Tryz.func84 (by kernel_rfl) (by kernel_rfl) (by kernel_rfl) (by kernel_rfl)
  have hIN := @run_callFunc_extern Tryz.prog 85 _ (ReflectliteValue.method (ReflectliteValue.valueError "reflectlite.Value.IsNil" 0) ReflectliteValue.isNil) Tryz.func85 (by kernel_rfl) (by kernel_rfl) (by kernel_rfl) (by kernel_rfl)
  have hKi := @run_callFunc_extern Tryz.prog 146 _ (ReflectliteType.abiMethod fun t => do pure (.int .u8 (← Rtype.kind t))) Tryz.func146 (by kernel_rfl) (by kernel_rfl) (by kernel_rfl) (by kernel_rfl)
  have hEl := @run_callFunc_extern Tryz.prog 159 _ (ReflectliteType.method ReflectliteType.elem) Tryz.func159 (by kernel_rfl) (by kernel_rfl) (by kernel_rfl) (by kernel_rfl)
  have hIm := @run_callFunc_extern Tryz.prog 160 _ (ReflectliteType.relation "Implements" ReflectliteType.implements_) Tryz.func160 (by kernel_rfl) (by kernel_rfl) (by kernel_rfl) (by kernel_rfl)
  have hTO := @run_callFunc_extern Tryz.prog 108 _ ReflectliteType.typeOf Tryz.func108 (by kernel_rfl) (by kernel_rfl) (by kernel_rfl) (by kernel_rfl)
  have hAT := @run_callFunc_extern Tryz.prog 157 _ (ReflectliteType.relation "AssignableTo" ReflectliteType.assignableTo) Tryz.func157 (by kernel_rfl) (by kernel_rfl) (by kernel_rfl) (by kernel_rfl)
  have hEV := @run_callFunc_extern Tryz.prog 109 _ (ReflectliteValue.method (ReflectliteValue.valueError "reflectlite.Value.Elem" 0) ReflectliteValue.elem) Tryz.func109 (by kernel_rfl) (by kernel_rfl) (by kernel_rfl) (by kernel_rfl)
  have hSe := @run_callFunc_extern Tryz.prog 110 _ ReflectliteValue.set Tryz.func110 (by kernel_rfl) (by kernel_rfl) (by kernel_rfl) (by kernel_rfl)
  have q1 := Tryz.rlValueOfPE
  have q2 := Tryz.rlTypePE
  have q3 := Tryz.rlMethodKind
  have q4 := Tryz.rlKindPE
  have q5 := Tryz.rlKindE
  have q6 := Tryz.rlMethodElem
  have q7 := Tryz.rlMethodImplements
  have q8 := Tryz.rlMethodAssignableTo
  have q9 := Tryz.rlElemPE
  have q10 := Tryz.rlImplementsE
  have q11 := Tryz.rlTypeOfE
  have q12 := Tryz.rlAssignableEE
  have q13 := Tryz.rlValueOfE
  have q14 := Tryz.rlTypeOfA
  have q15 := Tryz.rlAssignableAE
  have q16 := Tryz.noAsA
  have q17 := Tryz.hasUnwrapA
  have q18 := Tryz.methodUnwrapA
  have q19 := Tryz.nilAheadA
  have n8 := Tryz.rlIsNilPE ⟨w.heap.size, 0, none⟩ t ((w.alloc (.cells #[.pointer (some t)] 127)).alloc (.cells #[.pointer (some ⟨4, 127, none⟩), .pointer (some ⟨w.heap.size, 0, none⟩), .int .u64 150] 173)) (by simp)
  have hg2 : ((w.alloc (.cells #[.pointer (some t)] 127)).alloc (.cells #[.pointer (some ⟨4, 127, none⟩), .pointer (some ⟨w.heap.size, 0, none⟩), .int .u64 150] 173)).cell? ⟨0, 0, none⟩ = some (.iface 207 (.agg #[.pointer (some ⟨4, 36, none⟩)])) := (hg.alloc _).alloc _
  have htl : t.block < w.heap.size := by
    rcases Nat.lt_or_ge t.block w.heap.size with h | h
    · exact h
    · simp [World.cell?, Array.getElem?_eq_none h] at ht0
  have el := Tryz.rlElemVPE ⟨w.heap.size, 0, none⟩ t (((w.alloc (.cells #[.pointer (some t)] 127)).alloc (.cells #[.pointer (some ⟨4, 127, none⟩), .pointer (some ⟨w.heap.size, 0, none⟩), .int .u64 150] 173)).alloc (.cells #[.pointer (some ⟨4, 127, none⟩), .pointer (some ⟨w.heap.size, 0, none⟩), .int .u64 150] 173)) (by rw [World.cell?_alloc_lt _ _ ⟨w.heap.size, 0, none⟩ (by simp; omega)]; simp)
  have st := Tryz.rlSetE t ⟨w.heap.size + 1 + 1 + 1, 0, none⟩ x old ((((w.alloc (.cells #[.pointer (some t)] 127)).alloc (.cells #[.pointer (some ⟨4, 127, none⟩), .pointer (some ⟨w.heap.size, 0, none⟩), .int .u64 150] 173)).alloc (.cells #[.pointer (some ⟨4, 127, none⟩), .pointer (some ⟨w.heap.size, 0, none⟩), .int .u64 150] 173)).alloc (.cells #[.int .i64 x] 30))
    (by rw [World.cell?_alloc_at _ _ _ _ (by simp)]; rfl)
    (by rw [World.cell?_alloc_lt _ _ t (by simp; omega), World.cell?_alloc_lt _ _ t (by simp; omega), World.cell?_alloc_lt _ _ t (by simp; omega), World.cell?_alloc_lt _ _ t htl]; exact ht0)
    (by rw [World.frozen?_alloc_old _ _ t (by simp; omega), World.frozen?_alloc_old _ _ t (by simp; omega), World.frozen?_alloc_old _ _ t (by simp; omega), World.frozen?_alloc_old _ _ t (Nat.ne_of_lt htl)]; exact hf0)
  have hB : Below w.heap.size w ((((w.alloc (.cells #[.pointer (some t)] 127)).alloc (.cells #[.pointer (some ⟨4, 127, none⟩), .pointer (some ⟨w.heap.size, 0, none⟩), .int .u64 150] 173)).alloc (.cells #[.pointer (some ⟨4, 127, none⟩), .pointer (some ⟨w.heap.size, 0, none⟩), .int .u64 150] 173)).alloc (.cells #[.int .i64 x] 30)) := ((((Below.refl _ _).alloc (Nat.le_refl _) _).alloc (by simp) _).alloc (by simp; omega) _).alloc (by simp; omega) _
  have hc0 : (((w.alloc (.cells #[.pointer (some t)] 127)).alloc (.cells #[.pointer (some ⟨4, 127, none⟩), .pointer (some ⟨w.heap.size, 0, none⟩), .int .u64 150] 173)).alloc (.cells #[.pointer (some ⟨4, 127, none⟩), .pointer (some ⟨w.heap.size, 0, none⟩), .int .u64 150] 173)).cell? ⟨p, 0, none⟩ = some (.int .i64 x) := (((hp.alloc _).alloc _).alloc _).c0
  have HB := Lib.hid hB
  clear hB
  go_enter Tryz.func45, Tryz.ntmps45
  go_wp2
  refine wp_loop_rounds 2 ?_
  rw [rounds_succ]
  go_wp2
  rw [rounds_succ]
  go_wp2
  go_ret
  exact ⟨rfl, _, HB.out, rfl⟩

end Go.Proofs.YtcijhmbimbejfaaGreatDoor

namespace Go.Proofs.YtcijhmbimbejfaaGreatDoor
open Go.RowKit Go.Extern.Stop Go.Stop Go.Extern

/-- What errors.As leaves: the target holds the Errno; nothing else that was there is changed. -/
theorem as_left {t : Addr} {x : Int} {old : Value} {w w1 : World} (hb : Below w.heap.size w w1) (ht : w.cell? t = some old) :
    (w1.setCell t (.int .i64 x)).cell? t = some (.int .i64 x) ∧ w.grownBy (w1.setCell t (.int .i64 x)) (some t.block) := by
  have hlt : t.block < w.heap.size := World.block_lt_of_cell? w t ht
  have hc : w1.cell? t = some old := (hb.cell hlt).trans ht
  refine ⟨World.cell?_setCell_same' w1 t _ (by rw [hc]; rfl), hb.os, hb.tape, hb.output, by simpa [World.setCell] using hb.size, fun k hk hne => ?_⟩
  exact (Below.heap_setCell _ _ _ _ (by intro e; exact hne (by rw [e]))).trans (hb.block k hk)

theorem tell_nil (w : World) : Calls Tryz.prog 13 #[.nilIface] w fun e w' => e = .returned (.int .i64 0) ∧ w = w' := by
  go_enter Tryz.func13, Tryz.ntmps13
  go_wp2
  go_ret
  exact ⟨rfl, rfl⟩

theorem tell_errno (x : Int) (w : World) (hg : HasErr w) : Calls Tryz.prog 13 #[.iface 30 (.int .i64 x)] w fun e w' => e = .returned (.int .i64 x) ∧ Below w.heap.size w w' := by
  go_enter Tryz.func13, Tryz.ntmps13
  go_wp2_with fail
  have hc : (w.alloc (.cells #[.int .i64 0] 30)).cell? ⟨w.heap.size, 0, none⟩ = some (.int .i64 0) := by simp
  refine (as_errno x ⟨w.heap.size, 0, none⟩ (.int .i64 0) _ (hg.alloc _) hc (by simp)).mono ?_
  rintro e w' ⟨rfl, w1, hb1, rfl⟩
  obtain ⟨h1, h2⟩ := as_left (x := x) hb1 hc
  have hB : Below w.heap.size w (w1.setCell ⟨w.heap.size, 0, none⟩ (.int .i64 x)) := ((Below.refl _ _).alloc (Nat.le_refl _) _).grown h2 (by simp) (fun k e => by cases e; exact Nat.le_refl _)
  clear hb1 h2 hc
  generalize w1.setCell ⟨w.heap.size, 0, none⟩ (.int .i64 x) = w2 at *
  go_wp2
  go_ret
  exact ⟨rfl, hB⟩

theorem tell_at (p : Nat) (x y : Int) (w : World) (hg : HasErr w) (hp : Flt w p x y) : Calls Tryz.prog 13 #[.iface 102 (.pointer (some ⟨p, 0, none⟩))] w fun e w' => e = .returned (.int .i64 x) ∧ Below w.heap.size w w' := by
  go_enter Tryz.func13, Tryz.ntmps13
  go_wp2_with fail
  have hc : (w.alloc (.cells #[.int .i64 0] 30)).cell? ⟨w.heap.size, 0, none⟩ = some (.int .i64 0) := by simp
  refine (as_at p x y ⟨w.heap.size, 0, none⟩ (.int .i64 0) _ (hp.alloc _) (hg.alloc _) hc (by simp)).mono ?_
  rintro e w' ⟨rfl, w1, hb1, rfl⟩
  obtain ⟨h1, h2⟩ := as_left (x := x) hb1 hc
  have hB : Below w.heap.size w (w1.setCell ⟨w.heap.size, 0, none⟩ (.int .i64 x)) := ((Below.refl _ _).alloc (Nat.le_refl _) _).grown h2 (by simp) (fun k e => by cases e; exact Nat.le_refl _)
  clear hb1 h2 hc
  generalize w1.setCell ⟨w.heap.size, 0, none⟩ (.int .i64 x) = w2 at *
  go_wp2
  go_ret
  exact ⟨rfl, hB⟩

theorem Tryz.noUnwrapE (v : Value) (xT : TypeId) (w : World) : (Instr.typeAssert (.iface 30 v) xT 146 true).run Tryz.prog w = .ok (.tuple #[.nilIface, .bool false]) w :=
  run_typeAssert_lacksB Tryz.underlying146 (by kernel_rfl) (by kernel_rfl) v xT w

theorem Tryz.noAtE (v : Value) (w : World) : (Instr.typeAssert (.iface 30 v) 36 102 true).run Tryz.prog w = .ok (.tuple #[.pointer none, .bool false]) w := by kernel_rfl
theorem Tryz.isAtA (v : Value) (w : World) : (Instr.typeAssert (.iface 102 v) 36 102 true).run Tryz.prog w = .ok (.tuple #[v, .bool true]) w := by kernel_rfl

theorem place_nil (w : World) : Calls Tryz.prog 25 #[.nilIface] w fun e w' => e = .returned (.tuple #[.int .i64 0, .int .i64 (-1)]) ∧ w = w' := by
  go_enter Tryz.func25, Tryz.ntmps25
  go_wp2_with fail
  refine (tell_nil _).mono ?_
  rintro e w' ⟨rfl, rfl⟩
  go_wp2
  refine wp_loop_rounds 1 ?_
  rw [rounds_succ]
  go_wp2
  go_ret2
  exact ⟨rfl, rfl⟩

set_option maxRecDepth 100000 in
theorem place_errno (x : Int) (w : World) (hg : HasErr w) : Calls Tryz.prog 25 #[.iface 30 (.int .i64 x)] w fun e w' => e = .returned (.tuple #[.int .i64 x, .int .i64 (-1)]) ∧ Below w.heap.size w w' := by
  have q := Tryz.noUnwrapE
  have q2 := Tryz.noAtE
  go_enter Tryz.func25, Tryz.ntmps25
  go_wp2_with fail
  refine (tell_errno x _ hg).mono ?_
  rintro e w' ⟨rfl, hB⟩
  go_wp2
  refine wp_loop_rounds 1 ?_
  rw [rounds_succ]
  go_wp2
  go_ret2
  exact ⟨rfl, hB⟩

set_option maxRecDepth 100000 in
theorem place_at (p : Nat) (x y : Int) (w : World) (hg : HasErr w) (hp : Flt w p x y) : Calls Tryz.prog 25 #[.iface 102 (.pointer (some ⟨p, 0, none⟩))] w fun e w' => e = .returned (.tuple #[.int .i64 x, .int .i64 y]) ∧ Below w.heap.size w w' := by
  have q2 := Tryz.isAtA
  go_enter Tryz.func25, Tryz.ntmps25
  go_wp2_with fail
  refine (tell_at p x y _ hg hp).mono ?_
  rintro e w' ⟨rfl, hB⟩
  have hc : w'.cell? ⟨p, 1, none⟩ = some (.int .i64 y) := (hB.cell (p := ⟨p, 1, none⟩) hp.lt).trans hp.c1
  go_wp2
  refine wp_loop_rounds 1 ?_
  rw [rounds_succ]
  go_wp2
  go_region
  all_goals go_wp2
  all_goals go_ret2
  all_goals exact ⟨rfl, hB.drew⟩

end Go.Proofs.YtcijhmbimbejfaaGreatDoor

namespace Go.Proofs.YtcijhmbimbejfaaGreatDoor.lldpBack
open Go.RowKit
attribute [local go_sem ↓] Go.wp_at_zero Go.wp_at_succ
set_option linter.unusedSimpArgs false
set_option linter.unusedVariables false
set_option maxRecDepth 100000

set_option maxHeartbeats 3200000 in
theorem walk (x : Ld) (q : LdA) (w : World) (h0 : LdIn w x q) (hr : rgLd x) (hE : HasErr w) :
    Calls Tryz.prog 4 #[.agg (ldC x q)] w fun e w' => e = .returned (.bool true) ∧ Below w.heap.size w w' := by
  have hnn : ∀ w : World, (binOp BinOp.eql 36 .nilIface .nilIface).run Tryz.prog w = .ok (.bool true) w := fun _ => by kernel_rfl
  have HLg := Lib.hid (fun W => large_any x q W)
  have HRi := Lib.hid (fun (W : World) (h : LdIn W x q) => ldRight_any x q W h hr)
  have HW := Lib.hid (fun (W : World) (h : LdIn W x q) => ldWrite_any x q W h hr)
  have HXX : Hid (okLd x = true → (ldX x) = ldW x) := fun hk => by unfold ldX; rw [hk]; rfl
  have HXY : Hid (okLd x = false → (ldX x) = []) := fun hk => by unfold ldX; rw [hk]; rfl
  have HRd : Hid (okLd x = true → ∀ W, Calls Tryz.prog 6 #[.string ⟨(ldX x).toArray⟩] W fun e w' => ∃ p, e = .returned (.tuple #[.agg (ldC x p), .nilIface]) ∧ LdIn w' x p ∧ Below W.heap.size W w') := fun hk W => by
    rw [HXX.out hk]
    exact ldRead_ok ⟨(ldW x).toArray⟩ W (by rw [bysz]; have := ldW_le x hk; omega) x (by rw [← rdLd_W x hk])
  have HS : Hid (okLd x = true → ∀ (p : LdA) (W : World) (h1 : LdIn W x q) (h2 : LdIn W x p), Calls Tryz.prog 14 #[.agg (ldC x q), .agg (ldC x p)] W fun e w' => e = .returned (.bool true) ∧ Below W.heap.size W w') := fun hk p W h1 h2 => sameLd_any x q p W h1 h2 (okLd_len _ hk)
  generalize ldX x = X at *
  generalize okLd x = ok at *
  clear HXX hr
  go_enter Tryz.func4, Tryz.ntmps4
  go_upto_region 1 with (refine box_blk 29 (ldC x q) (by rfl) (by rfl) rfl ?_; intro w1 HV1 B1)
  obtain ⟨V, hV⟩ : ∃ V, V = w.heap.size := ⟨_, rfl⟩
  rw [← hV] at HV1
  rw [← hV]
  clear hV
  go_wp2_with fail
  refine (told_any _).mono ?_
  rintro e w2 ⟨rfl, k2⟩
  have HV2 := HV1.kept k2
  have B2 := B1.trans (k2.mono B1.size)
  clear HV1 B1 k2
  go_wp2_with (refine load_blk (k := 0) 29 (ldC x q) (by rfl) rfl rfl HV2 (by kernel_rfl) (by kernel_rfl) rfl ?_)
  refine (HLg.out _).mono ?_
  rintro e w3 ⟨⟨b, rfl⟩, k3⟩
  have HV3 := HV2.kept k3
  have B3 := B2.trans (k3.mono B2.size)
  clear HV2 B2 k3
  cases b with
  | true =>
    go_wp2
    go_ret
    exact ⟨rfl, B3⟩
  | false =>
    have I3 := h0.below B3
    go_wp2_with (refine load_blk (k := 0) 29 (ldC x q) (by rfl) rfl rfl HV3 (by kernel_rfl) (by kernel_rfl) rfl ?_)
    refine (HW.out _ I3).mono ?_
    rintro e w4 ⟨rfl, k4⟩
    have HV4 := HV3.kept k4
    have B4 := B3.trans (k4.mono B3.size)
    have I4 := h0.below B4
    clear HV3 B3 k4 I3
    go_wp2_with (refine load_blk (k := 0) 29 (ldC x q) (by rfl) rfl rfl HV4 (by kernel_rfl) (by kernel_rfl) rfl ?_)
    refine (HRi.out _ I4).mono ?_
    rintro e w5 ⟨rfl, k5⟩
    have HV5 := HV4.kept k5
    have B5 := B4.trans (k5.mono B4.size)
    clear HV4 B4 k5 I4
    cases ok with
    | false =>
      have hX := HXY.out rfl
      subst hX
      have hcc : ((⟨#[]⟩ : ByteArray).toList == (⟨#[]⟩ : ByteArray).toList) = true := beq_iff_eq.2 rfl
      have hE5 := hE.below B5
      simp only [ldE, Bool.false_eq_true, if_false]
      go_wp2_with fail
      refine (tell_errno 1 _ hE5).mono ?_
      rintro e w6 ⟨rfl, k6⟩
      go_wp2
      go_ret
      exact ⟨rfl, B5.trans (k6.mono B5.size)⟩
    | true =>
      simp only [ldE, if_true]
      go_wp2_with fail
      refine (HRd.out (by first | exact rfl | trivial) _).mono ?_
      rintro e w6 ⟨p, rfl, J6, k6⟩
      have HV6 := HV5.kept k6
      have B6 := B5.trans (k6.mono B5.size)
      clear HV5 B5 k6
      go_upto_region 9 with (first
        | (refine alloc_blk 29 (ldC zLd zLdA) (by rfl) rfl Tryz.ldZero ?_)
        | (refine store_blk (k := 0) 29 (.agg (ldC x p)) (ldC x p) (by rfl) rfl rfl rfl (Blk.new w6 _ _) (by kernel_rfl) (Nat.le_of_eq rfl) (by rfl) (st_whole _ _ rfl) ?_; intro w7 HN7 b7 g7))
      (try simp only [Act.put, List.setIfInBounds_toArray, List.set_cons_zero, List.set_cons_succ])
      have k7 : Below w6.heap.size w6 w7 := ((Below.refl _ _).alloc (Nat.le_refl _) _).trans b7
      have HV7 := HV6.kept k7
      have J7 := J6.below k7
      have B7 := B6.trans (k7.mono B6.size)
      have I7 := h0.below B7
      clear HV6 J6 B6 b7 g7 k7
      generalize w6.heap.size = U at *
      go_wp2_with (first
        | (refine load_blk (k := 0) 29 (ldC x q) (by rfl) rfl rfl HV7 (by kernel_rfl) (by kernel_rfl) rfl ?_)
        | (refine load_blk (k := 0) 29 (ldC x p) (by rfl) rfl rfl HN7 (by kernel_rfl) (by kernel_rfl) rfl ?_))
      refine (HS.out (by first | exact rfl | trivial) _ _ I7 J7).mono ?_
      rintro e w8 ⟨rfl, k8⟩
      go_wp2
      go_ret
      exact ⟨rfl, B7.trans (k8.mono B7.size)⟩

end Go.Proofs.YtcijhmbimbejfaaGreatDoor.lldpBack

