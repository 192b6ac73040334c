/- What a station tells as values: cells, ==, rows of one's own. -/
import Derived.Test.YtnlphldkdglofaaLdP
import Derived.Test.YtnlphldkdglofaaCells
import Derived.Test.YtnlphldkdglofaaFits
import Derived.Test.YtnlphldkdglofaaStOp
import Derived.Deep.AppendLies
import Derived.Deep.RegionHeld3
import Derived.Great.BuildSlice
namespace Go.Proofs.Ytnlphldkdglofaa
open Go.RowKit
attribute [local go_sem ↓] Go.wp_at_zero Go.wp_at_succ
set_option linter.unusedSimpArgs false
set_option linter.unusedVariables false
set_option maxRecDepth 100000

def nmC (x : Nm) : Array Value := #[.int .i64 x.su, .string x.id]

def rgNm (x : Nm) : Prop := i64R x.su ∧ x.id.size ≤ maxLen

def NmAt (w : World) (b o : Nat) (l : List Nm) : Prop := ∀ j (hj : j < l.length), CellsAt w b (o + j * 2) (nmC l[j])

def NmIn (w : World) (a : Option Addr) (l : List Nm) : Prop := l = [] ∨ ∃ b o, a = some ⟨b, o, none⟩ ∧ b < w.heap.size ∧ NmAt w b o l

theorem NmAt.below {w w' : World} {b o D : Nat} {l : List Nm} (h : NmAt w b o l) (hb : Below D w w') (hB : b < D) : NmAt w' b o l := fun j hj => (h j hj).below hb hB

theorem NmIn.below {w w' : World} {a : Option Addr} {l : List Nm} (h : NmIn w a l) (hb : Below w.heap.size w w') : NmIn w' a l := by
  rcases h with h | ⟨b, o, h1, h2, h3⟩
  · exact Or.inl h
  · exact Or.inr ⟨b, o, h1, Nat.lt_of_lt_of_le h2 hb.size, fun j hj => (h3 j hj).below hb h2⟩

theorem NmIn.drew {w : World} {a : Option Addr} {l : List Nm} (h : NmIn w a l) : NmIn w.drew a l := h

theorem NmIn.at {w : World} {a : Option Addr} {l : List Nm} (h : NmIn w a l) {k : Nat} (hk : k < l.length) : ∃ b o, a = some ⟨b, o, none⟩ ∧ b < w.heap.size ∧ NmAt w b o l := by
  rcases h with rfl | h
  · simp at hk
  · exact h

/-- A list that lay somewhere ahead lies there still. -/
theorem NmIn.late {w0 w w' : World} {a : Option Addr} {l : List Nm} (h : NmIn w a l) (h0 : NmIn w0 a l) (hb : Below w0.heap.size w w') : NmIn w' a l := by
  rcases h with h | ⟨b, o, e1, e2, e3⟩
  · exact Or.inl h
  · rcases h0 with h0 | ⟨b0, o0, f1, f2, f3⟩
    · exact Or.inl h0
    · rw [e1] at f1
      cases f1
      exact Or.inr ⟨b, o, e1, Nat.lt_of_lt_of_le e2 hb.size, e3.below hb f2⟩

theorem Try.nmZero : (Try.prog.info? 46).map (·.zero) = some (some (.agg (nmC zNm))) := by kernel_rfl

def eqNm (a b : Nm) : Bool := (a.su == b.su) && (a.id.toList == b.id.toList)

theorem run_eql_nm (d : Nat) (a b : Nm) (w : World) : (Op.equalIn (d + 5) 46 (.agg (nmC a)) (.agg (nmC b))).run Try.prog w = .ok (eqNm a b) w := by
  have hs : Try.prog.stoodInHeld 46 = false := by kernel_rfl
  have hu : Try.prog.underlying 46 = some (.struct (Try.prog.fieldsOf 46)) := by kernel_rfl
  have hf : (Try.prog.fieldsOf 46).toList.map (fun f => (f.name == "_", f.type, f.offset)) = [(false, 3, 0), (false, 9, 1)] := by kernel_rfl
  rw [run_equalIn_agg w (d + 4) 46 _ _ hu hs]
  obtain ⟨f0, l0, h0, g0, hf⟩ := List.map_eq_cons_iff.1 hf
  obtain ⟨f1, l1, rfl, g1, hf⟩ := List.map_eq_cons_iff.1 hf
  obtain rfl := List.map_eq_nil_iff.1 hf
  rw [h0]
  have e0 := run_equalIn_int (P := Try.prog) w (d + 3) 3 .i64 .i64 a.su b.su Try.underlying3
  have e1 := run_equalIn_string (P := Try.prog) w (d + 3) 9 a.id b.id Try.underlying9
  have h := run_eqFields_cons w (d + 4) (nmC a) (nmC b) f0 _ _ _ _ _ _ _ g0 (run_part_one w _ _ 0 _ (by kernel_rfl) rfl) (run_part_one w _ _ 0 _ (by kernel_rfl) rfl) e0
    (run_eqFields_cons w (d + 4) (nmC a) (nmC b) f1 _ _ _ _ _ _ _ g1 (run_part_one w _ _ 1 _ (by kernel_rfl) rfl) (run_part_one w _ _ 1 _ (by kernel_rfl) rfl) e1
    (run_eqFields_nil w (d + 4) _ _))
  rw [Bool.and_true] at h
  exact h

theorem eqNm_same (a : Nm) : eqNm a a = true := by simp [eqNm]

theorem nm_same (x : Nm) (W : World) : (Op.equalIn 10000 46 (.agg (nmC x)) (.agg (nmC x))).run Try.prog W = .ok true W := by
  have h := run_eql_nm 9995 x x W
  rw [eqNm_same] at h
  exact h

def cpC (x : Cp) : Array Value := #[.int .i64 x.h, .int .i64 x.o]

def rgCp (x : Cp) : Prop := i64R x.h ∧ i64R x.o

def CpAt (w : World) (b o : Nat) (l : List Cp) : Prop := ∀ j (hj : j < l.length), CellsAt w b (o + j * 2) (cpC l[j])

def CpIn (w : World) (a : Option Addr) (l : List Cp) : Prop := l = [] ∨ ∃ b o, a = some ⟨b, o, none⟩ ∧ b < w.heap.size ∧ CpAt w b o l

theorem CpAt.below {w w' : World} {b o D : Nat} {l : List Cp} (h : CpAt w b o l) (hb : Below D w w') (hB : b < D) : CpAt w' b o l := fun j hj => (h j hj).below hb hB

theorem CpIn.below {w w' : World} {a : Option Addr} {l : List Cp} (h : CpIn w a l) (hb : Below w.heap.size w w') : CpIn w' a l := by
  rcases h with h | ⟨b, o, h1, h2, h3⟩
  · exact Or.inl h
  · exact Or.inr ⟨b, o, h1, Nat.lt_of_lt_of_le h2 hb.size, fun j hj => (h3 j hj).below hb h2⟩

theorem CpIn.drew {w : World} {a : Option Addr} {l : List Cp} (h : CpIn w a l) : CpIn w.drew a l := h

theorem CpIn.at {w : World} {a : Option Addr} {l : List Cp} (h : CpIn w a l) {k : Nat} (hk : k < l.length) : ∃ b o, a = some ⟨b, o, none⟩ ∧ b < w.heap.size ∧ CpAt w b o l := by
  rcases h with rfl | h
  · simp at hk
  · exact h

/-- A list that lay somewhere ahead lies there still. -/
theorem CpIn.late {w0 w w' : World} {a : Option Addr} {l : List Cp} (h : CpIn w a l) (h0 : CpIn w0 a l) (hb : Below w0.heap.size w w') : CpIn w' a l := by
  rcases h with h | ⟨b, o, e1, e2, e3⟩
  · exact Or.inl h
  · rcases h0 with h0 | ⟨b0, o0, f1, f2, f3⟩
    · exact Or.inl h0
    · rw [e1] at f1
      cases f1
      exact Or.inr ⟨b, o, e1, Nat.lt_of_lt_of_le e2 hb.size, e3.below hb f2⟩

theorem Try.cpZero : (Try.prog.info? 80).map (·.zero) = some (some (.agg (cpC zCp))) := by kernel_rfl

def eqCp (a b : Cp) : Bool := (a.h == b.h) && (a.o == b.o)

theorem run_eql_cp (d : Nat) (a b : Cp) (w : World) : (Op.equalIn (d + 5) 80 (.agg (cpC a)) (.agg (cpC b))).run Try.prog w = .ok (eqCp a b) w := by
  have hs : Try.prog.stoodInHeld 80 = false := by kernel_rfl
  have hu : Try.prog.underlying 80 = some (.struct (Try.prog.fieldsOf 80)) := by kernel_rfl
  have hf : (Try.prog.fieldsOf 80).toList.map (fun f => (f.name == "_", f.type, f.offset)) = [(false, 3, 0), (false, 3, 1)] := by kernel_rfl
  rw [run_equalIn_agg w (d + 4) 80 _ _ hu hs]
  obtain ⟨f0, l0, h0, g0, hf⟩ := List.map_eq_cons_iff.1 hf
  obtain ⟨f1, l1, rfl, g1, hf⟩ := List.map_eq_cons_iff.1 hf
  obtain rfl := List.map_eq_nil_iff.1 hf
  rw [h0]
  have e0 := run_equalIn_int (P := Try.prog) w (d + 3) 3 .i64 .i64 a.h b.h Try.underlying3
  have e1 := run_equalIn_int (P := Try.prog) w (d + 3) 3 .i64 .i64 a.o b.o Try.underlying3
  have h := run_eqFields_cons w (d + 4) (cpC a) (cpC b) f0 _ _ _ _ _ _ _ g0 (run_part_one w _ _ 0 _ (by kernel_rfl) rfl) (run_part_one w _ _ 0 _ (by kernel_rfl) rfl) e0
    (run_eqFields_cons w (d + 4) (cpC a) (cpC b) f1 _ _ _ _ _ _ _ g1 (run_part_one w _ _ 1 _ (by kernel_rfl) rfl) (run_part_one w _ _ 1 _ (by kernel_rfl) rfl) e1
    (run_eqFields_nil w (d + 4) _ _))
  rw [Bool.and_true] at h
  exact h

theorem eqCp_same (a : Cp) : eqCp a a = true := by simp [eqCp]

theorem cp_same (x : Cp) (W : World) : (Op.equalIn 10000 80 (.agg (cpC x)) (.agg (cpC x))).run Try.prog W = .ok true W := by
  have h := run_eql_cp 9995 x x W
  rw [eqCp_same] at h
  exact h

def ogC (x : Og) : Array Value := #[.int .i64 x.ou, .int .i64 x.su, .string x.nf]

def rgOg (x : Og) : Prop := i64R x.ou ∧ i64R x.su ∧ x.nf.size ≤ maxLen

def OgAt (w : World) (b o : Nat) (l : List Og) : Prop := ∀ j (hj : j < l.length), CellsAt w b (o + j * 3) (ogC l[j])

def OgIn (w : World) (a : Option Addr) (l : List Og) : Prop := l = [] ∨ ∃ b o, a = some ⟨b, o, none⟩ ∧ b < w.heap.size ∧ OgAt w b o l

theorem OgAt.below {w w' : World} {b o D : Nat} {l : List Og} (h : OgAt w b o l) (hb : Below D w w') (hB : b < D) : OgAt w' b o l := fun j hj => (h j hj).below hb hB

theorem OgIn.below {w w' : World} {a : Option Addr} {l : List Og} (h : OgIn w a l) (hb : Below w.heap.size w w') : OgIn w' a l := by
  rcases h with h | ⟨b, o, h1, h2, h3⟩
  · exact Or.inl h
  · exact Or.inr ⟨b, o, h1, Nat.lt_of_lt_of_le h2 hb.size, fun j hj => (h3 j hj).below hb h2⟩

theorem OgIn.drew {w : World} {a : Option Addr} {l : List Og} (h : OgIn w a l) : OgIn w.drew a l := h

theorem OgIn.at {w : World} {a : Option Addr} {l : List Og} (h : OgIn w a l) {k : Nat} (hk : k < l.length) : ∃ b o, a = some ⟨b, o, none⟩ ∧ b < w.heap.size ∧ OgAt w b o l := by
  rcases h with rfl | h
  · simp at hk
  · exact h

/-- A list that lay somewhere ahead lies there still. -/
theorem OgIn.late {w0 w w' : World} {a : Option Addr} {l : List Og} (h : OgIn w a l) (h0 : OgIn w0 a l) (hb : Below w0.heap.size w w') : OgIn w' a l := by
  rcases h with h | ⟨b, o, e1, e2, e3⟩
  · exact Or.inl h
  · rcases h0 with h0 | ⟨b0, o0, f1, f2, f3⟩
    · exact Or.inl h0
    · rw [e1] at f1
      cases f1
      exact Or.inr ⟨b, o, e1, Nat.lt_of_lt_of_le e2 hb.size, e3.below hb f2⟩

theorem Try.ogZero : (Try.prog.info? 86).map (·.zero) = some (some (.agg (ogC zOg))) := by kernel_rfl

def eqOg (a b : Og) : Bool := (a.ou == b.ou) && ((a.su == b.su) && (a.nf.toList == b.nf.toList))

theorem run_eql_og (d : Nat) (a b : Og) (w : World) : (Op.equalIn (d + 5) 86 (.agg (ogC a)) (.agg (ogC b))).run Try.prog w = .ok (eqOg a b) w := by
  have hs : Try.prog.stoodInHeld 86 = false := by kernel_rfl
  have hu : Try.prog.underlying 86 = some (.struct (Try.prog.fieldsOf 86)) := by kernel_rfl
  have hf : (Try.prog.fieldsOf 86).toList.map (fun f => (f.name == "_", f.type, f.offset)) = [(false, 3, 0), (false, 3, 1), (false, 9, 2)] := by kernel_rfl
  rw [run_equalIn_agg w (d + 4) 86 _ _ hu hs]
  obtain ⟨f0, l0, h0, g0, hf⟩ := List.map_eq_cons_iff.1 hf
  obtain ⟨f1, l1, rfl, g1, hf⟩ := List.map_eq_cons_iff.1 hf
  obtain ⟨f2, l2, rfl, g2, hf⟩ := List.map_eq_cons_iff.1 hf
  obtain rfl := List.map_eq_nil_iff.1 hf
  rw [h0]
  have e0 := run_equalIn_int (P := Try.prog) w (d + 3) 3 .i64 .i64 a.ou b.ou Try.underlying3
  have e1 := run_equalIn_int (P := Try.prog) w (d + 3) 3 .i64 .i64 a.su b.su Try.underlying3
  have e2 := run_equalIn_string (P := Try.prog) w (d + 3) 9 a.nf b.nf Try.underlying9
  have h := run_eqFields_cons w (d + 4) (ogC a) (ogC b) f0 _ _ _ _ _ _ _ g0 (run_part_one w _ _ 0 _ (by kernel_rfl) rfl) (run_part_one w _ _ 0 _ (by kernel_rfl) rfl) e0
    (run_eqFields_cons w (d + 4) (ogC a) (ogC b) f1 _ _ _ _ _ _ _ g1 (run_part_one w _ _ 1 _ (by kernel_rfl) rfl) (run_part_one w _ _ 1 _ (by kernel_rfl) rfl) e1
    (run_eqFields_cons w (d + 4) (ogC a) (ogC b) f2 _ _ _ _ _ _ _ g2 (run_part_one w _ _ 2 _ (by kernel_rfl) rfl) (run_part_one w _ _ 2 _ (by kernel_rfl) rfl) e2
    (run_eqFields_nil w (d + 4) _ _)))
  rw [Bool.and_true] at h
  exact h

theorem eqOg_same (a : Og) : eqOg a a = true := by simp [eqOg]

theorem og_same (x : Og) (W : World) : (Op.equalIn 10000 86 (.agg (ogC x)) (.agg (ogC x))).run Try.prog W = .ok true W := by
  have h := run_eql_og 9995 x x W
  rw [eqOg_same] at h
  exact h

def mgC (x : Mg) : Array Value := #[.int .i64 x.as, .string x.ai, .int .i64 x.fs, .int .i64 x.fi, .string x.oid]

def rgMg (x : Mg) : Prop := i64R x.as ∧ i64R x.fs ∧ i64R x.fi ∧ x.ai.size ≤ maxLen ∧ x.oid.size ≤ maxLen

def MgAt (w : World) (b o : Nat) (l : List Mg) : Prop := ∀ j (hj : j < l.length), CellsAt w b (o + j * 5) (mgC l[j])

def MgIn (w : World) (a : Option Addr) (l : List Mg) : Prop := l = [] ∨ ∃ b o, a = some ⟨b, o, none⟩ ∧ b < w.heap.size ∧ MgAt w b o l

theorem MgAt.below {w w' : World} {b o D : Nat} {l : List Mg} (h : MgAt w b o l) (hb : Below D w w') (hB : b < D) : MgAt w' b o l := fun j hj => (h j hj).below hb hB

theorem MgIn.below {w w' : World} {a : Option Addr} {l : List Mg} (h : MgIn w a l) (hb : Below w.heap.size w w') : MgIn w' a l := by
  rcases h with h | ⟨b, o, h1, h2, h3⟩
  · exact Or.inl h
  · exact Or.inr ⟨b, o, h1, Nat.lt_of_lt_of_le h2 hb.size, fun j hj => (h3 j hj).below hb h2⟩

theorem MgIn.drew {w : World} {a : Option Addr} {l : List Mg} (h : MgIn w a l) : MgIn w.drew a l := h

theorem MgIn.at {w : World} {a : Option Addr} {l : List Mg} (h : MgIn w a l) {k : Nat} (hk : k < l.length) : ∃ b o, a = some ⟨b, o, none⟩ ∧ b < w.heap.size ∧ MgAt w b o l := by
  rcases h with rfl | h
  · simp at hk
  · exact h

/-- A list that lay somewhere ahead lies there still. -/
theorem MgIn.late {w0 w w' : World} {a : Option Addr} {l : List Mg} (h : MgIn w a l) (h0 : MgIn w0 a l) (hb : Below w0.heap.size w w') : MgIn w' a l := by
  rcases h with h | ⟨b, o, e1, e2, e3⟩
  · exact Or.inl h
  · rcases h0 with h0 | ⟨b0, o0, f1, f2, f3⟩
    · exact Or.inl h0
    · rw [e1] at f1
      cases f1
      exact Or.inr ⟨b, o, e1, Nat.lt_of_lt_of_le e2 hb.size, e3.below hb f2⟩

theorem Try.mgZero : (Try.prog.info? 83).map (·.zero) = some (some (.agg (mgC zMg))) := by kernel_rfl

def eqMg (a b : Mg) : Bool := (eqNm ⟨a.as, a.ai⟩ ⟨b.as, b.ai⟩) && ((a.fs == b.fs) && ((a.fi == b.fi) && (a.oid.toList == b.oid.toList)))

theorem run_eql_mg (d : Nat) (a b : Mg) (w : World) : (Op.equalIn (d + 6) 83 (.agg (mgC a)) (.agg (mgC b))).run Try.prog w = .ok (eqMg a b) w := by
  have hs : Try.prog.stoodInHeld 83 = false := by kernel_rfl
  have hu : Try.prog.underlying 83 = some (.struct (Try.prog.fieldsOf 83)) := by kernel_rfl
  have hf : (Try.prog.fieldsOf 83).toList.map (fun f => (f.name == "_", f.type, f.offset)) = [(false, 46, 0), (false, 3, 2), (false, 3, 3), (false, 9, 4)] := by kernel_rfl
  rw [run_equalIn_agg w (d + 5) 83 _ _ hu hs]
  obtain ⟨f0, l0, h0, g0, hf⟩ := List.map_eq_cons_iff.1 hf
  obtain ⟨f1, l1, rfl, g1, hf⟩ := List.map_eq_cons_iff.1 hf
  obtain ⟨f2, l2, rfl, g2, hf⟩ := List.map_eq_cons_iff.1 hf
  obtain ⟨f3, l3, rfl, g3, hf⟩ := List.map_eq_cons_iff.1 hf
  obtain rfl := List.map_eq_nil_iff.1 hf
  rw [h0]
  have e0 := run_eql_nm d ⟨a.as, a.ai⟩ ⟨b.as, b.ai⟩ w
  have e1 := run_equalIn_int (P := Try.prog) w (d + 4) 3 .i64 .i64 a.fs b.fs Try.underlying3
  have e2 := run_equalIn_int (P := Try.prog) w (d + 4) 3 .i64 .i64 a.fi b.fi Try.underlying3
  have e3 := run_equalIn_string (P := Try.prog) w (d + 4) 9 a.oid b.oid Try.underlying9
  have h := run_eqFields_cons w (d + 5) (mgC a) (mgC b) f0 _ _ _ _ _ _ _ g0 (run_part_agg w _ _ 0 2 (nmC ⟨a.as, a.ai⟩) (by kernel_rfl) (by kernel_rfl) rfl) (run_part_agg w _ _ 0 2 (nmC ⟨b.as, b.ai⟩) (by kernel_rfl) (by kernel_rfl) rfl) e0
    (run_eqFields_cons w (d + 5) (mgC a) (mgC b) f1 _ _ _ _ _ _ _ g1 (run_part_one w _ _ 2 _ (by kernel_rfl) rfl) (run_part_one w _ _ 2 _ (by kernel_rfl) rfl) e1
    (run_eqFields_cons w (d + 5) (mgC a) (mgC b) f2 _ _ _ _ _ _ _ g2 (run_part_one w _ _ 3 _ (by kernel_rfl) rfl) (run_part_one w _ _ 3 _ (by kernel_rfl) rfl) e2
    (run_eqFields_cons w (d + 5) (mgC a) (mgC b) f3 _ _ _ _ _ _ _ g3 (run_part_one w _ _ 4 _ (by kernel_rfl) rfl) (run_part_one w _ _ 4 _ (by kernel_rfl) rfl) e3
    (run_eqFields_nil w (d + 5) _ _))))
  rw [Bool.and_true] at h
  exact h

theorem eqMg_same (a : Mg) : eqMg a a = true := by simp [eqMg, eqNm]

theorem mg_same (x : Mg) (W : World) : (Op.equalIn 10000 83 (.agg (mgC x)) (.agg (mgC x))).run Try.prog W = .ok true W := by
  have h := run_eql_mg 9994 x x W
  rw [eqMg_same] at h
  exact h

def stC (x : ByteArray) : Array Value := #[.string x]

def StAt (w : World) (b o : Nat) (l : List ByteArray) : Prop := ∀ j (hj : j < l.length), CellsAt w b (o + j * 1) (stC l[j])

def StIn (w : World) (a : Option Addr) (l : List ByteArray) : Prop := l = [] ∨ ∃ b o, a = some ⟨b, o, none⟩ ∧ b < w.heap.size ∧ StAt w b o l

theorem StAt.below {w w' : World} {b o D : Nat} {l : List ByteArray} (h : StAt w b o l) (hb : Below D w w') (hB : b < D) : StAt w' b o l := fun j hj => (h j hj).below hb hB

theorem StIn.below {w w' : World} {a : Option Addr} {l : List ByteArray} (h : StIn w a l) (hb : Below w.heap.size w w') : StIn w' a l := by
  rcases h with h | ⟨b, o, h1, h2, h3⟩
  · exact Or.inl h
  · exact Or.inr ⟨b, o, h1, Nat.lt_of_lt_of_le h2 hb.size, fun j hj => (h3 j hj).below hb h2⟩

theorem StIn.drew {w : World} {a : Option Addr} {l : List ByteArray} (h : StIn w a l) : StIn w.drew a l := h

theorem StIn.at {w : World} {a : Option Addr} {l : List ByteArray} (h : StIn w a l) {k : Nat} (hk : k < l.length) : ∃ b o, a = some ⟨b, o, none⟩ ∧ b < w.heap.size ∧ StAt w b o l := by
  rcases h with rfl | h
  · simp at hk
  · exact h

/-- A list that lay somewhere ahead lies there still. -/
theorem StIn.late {w0 w w' : World} {a : Option Addr} {l : List ByteArray} (h : StIn w a l) (h0 : StIn w0 a l) (hb : Below w0.heap.size w w') : StIn w' a l := by
  rcases h with h | ⟨b, o, e1, e2, e3⟩
  · exact Or.inl h
  · rcases h0 with h0 | ⟨b0, o0, f1, f2, f3⟩
    · exact Or.inl h0
    · rw [e1] at f1
      cases f1
      exact Or.inr ⟨b, o, e1, Nat.lt_of_lt_of_le e2 hb.size, e3.below hb f2⟩

end Go.Proofs.Ytnlphldkdglofaa
