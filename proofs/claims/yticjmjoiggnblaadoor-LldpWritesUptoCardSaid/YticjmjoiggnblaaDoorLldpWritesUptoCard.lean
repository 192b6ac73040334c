/- LldpWrites where all data together are few: the argument opened, big, the reference, the walk, the card. -/
import Derived.Test.YticjmjoiggnblaaDoorRows
import Derived.Test.YticjmjoiggnblaaDoorCards
import Derived.Test.YticjmjoiggnblaaDoorTie
import Derived.Test.YticjmjoiggnblaaDoorPlace
import Derived.Test.YticjmjoiggnblaaDoorPost
import Derived.ProofKit
import Derived.OpenShut
import Derived.LaidHandle
import Derived.LaidMore
import Derived.LaidSub
import Derived.Deep.DeepHandedRow
import Derived.Lib.LaidTab
import Derived.Test.YticjmjoiggnblaaDoorLdV
import Derived.WideKeyArgs
import Derived.WideShapes
import Derived.SizedLaws
import Derived.Lib.SmallJoins
import Derived.Deep.SlicePairs
import Derived.Test.YticjmjoiggnblaaDoorStOp
import Derived.Test.YticjmjoiggnblaaDoorCells
import Derived.Test.YticjmjoiggnblaaDoorNumK
import Derived.Test.YticjmjoiggnblaaDoorLdRefT
import Derived.Test.YticjmjoiggnblaaDoorRefTlWrite
/- What a row's list of variables gives a walk, and a world in which all that is listed lies. -/
namespace Go.Proofs.YticjmjoiggnblaaDoor
open Go.ChangeShapes Go.WideShapes Go.ChangeAt Go.RowKit

theorem own : ownKnob Tryd.prog.godebug = none := by kernel_rfl
theorem Tryd.gErr : Tryd.prog.globalNamed "errors.errorType" = some 0 := by kernel_rfl
theorem Tryd.rtRow : (Tryd.prog.cutTypes.find? (·.1 == "internal/reflectlite.rtype")).map (·.2) = some 194 := by kernel_rfl
theorem Tryd.errRow : ((List.range 241).filter fun t => Tryd.prog.rowNamed t [101, 114, 114, 111, 114]) = [31] := by kernel_rfl
theorem Tryd.typesSize : Tryd.prog.types.size = 241 := by kernel_rfl

/-- A list that holds errors.errorType with the handle of the type error says what errors.As asks. -/
theorem hasErr_of_laid {W : World} {l : List (String × DataW Unit)} (h : laidMetH Tryd.prog l W) (hm : ("errors.errorType", Rows.laid_errors_errorType) ∈ l) : HasErr W := by
  obtain ⟨_, h2⟩ := laidMetH_iff.1 h
  obtain ⟨name, u, ty, e1, e2, e3, e4, e5⟩ := h2 _ (List.mem_filter.2 ⟨hm, by kernel_rfl⟩)
  have en : name = [101, 114, 114, 111, 114] := (Option.some.inj e1).symm
  subst en
  obtain rfl := Option.some.inj (Tryd.rtRow.symm.trans e2)
  have hin : ty ∈ (List.range 241).filter fun t => Tryd.prog.rowNamed t [101, 114, 114, 111, 114] := List.mem_filter.2 ⟨List.mem_range.2 (by rw [← Tryd.typesSize]; exact e3), e4⟩
  rw [Tryd.errRow] at hin
  obtain rfl := List.mem_singleton.1 hin
  have hh : typeHandle Tryd.prog 31 = .pointer (some ⟨4, 31, none⟩) := by kernel_rfl
  rw [hh] at e5
  have hc := World.var?_cell Tryd.gErr e5 0
  unfold HasErr
  simpa using hc

/-- The cells that a flat datum of integers lays. -/
def cellsOfDatum : DataW Unit → Array Value
  | .agg l => (l.map fun d => match d with | .lit (.int k n) => Value.int k n | _ => .int .u8 0).toArray
  | _ => #[]

/-- The door's own heap, and Go's own table beside it. -/
noncomputable def laidWorld (os : Os) : World :=
  let w0 := World.doorLaid Tryd.prog 400 os
  { w0 with heap := w0.heap.modify 1 fun | .cells _ t fr => .cells (cellsOfDatum Go.Pinned.utf8First) t fr | o => o }

end Go.Proofs.YticjmjoiggnblaaDoor

/- switchyardlaw.bare: an error that is this one, without a place. -/
namespace Go.Proofs.YticjmjoiggnblaaDoor
open Go.RowKit
set_option linter.unusedVariables false

theorem bare_nil (w : World) : Calls Tryd.prog 24 #[.nilIface, .int .i64 0] w fun e w' => e = .returned (.bool true) ∧ w = w' := by
  go_enter Tryd.func24, Tryd.ntmps24
  go_wp2_with fail
  refine (place_nil _).mono ?_
  rintro e w' ⟨rfl, rfl⟩
  go_wp2
  go_ret
  exact ⟨rfl, rfl⟩

theorem bare_errno (x : Int) (w : World) (hE : HasErr w) : Calls Tryd.prog 24 #[.iface 25 (.int .i64 x), .int .i64 x] w fun e w' => e = .returned (.bool true) ∧ Below w.heap.size w w' := by
  go_enter Tryd.func24, Tryd.ntmps24
  go_wp2_with fail
  refine (place_errno x _ hE).mono ?_
  rintro e w' ⟨rfl, hb⟩
  go_wp2
  go_ret
  exact ⟨rfl, hb⟩

/-- An error and its Errno. -/
def Bare (er : Value) (ea : Int) : Prop := ∀ w, HasErr w → Calls Tryd.prog 24 #[er, .int .i64 ea] w fun e w' => e = .returned (.bool true) ∧ Below w.heap.size w w'

theorem Bare.none : Bare .nilIface 0 := fun w _ => (bare_nil w).mono (by rintro e w' ⟨rfl, rfl⟩; exact ⟨rfl, Below.refl _ _⟩)
theorem Bare.errno (x : Int) : Bare (.iface 25 (.int .i64 x)) x := fun w hE => bare_errno x w hE

end Go.Proofs.YticjmjoiggnblaaDoor

/- The law LldpWrites where all data together are few: the argument opened, big, the reference, the walk. -/
/- An announcement that comes in. -/
namespace Go.Proofs.YticjmjoiggnblaaDoor
open Go.ChangeShapes Go.WideShapes Go.ChangeAt Go.RowKit Go.Deep Go.Joins
set_option linter.unusedVariables false

theorem bk_row {H : Type} {D : Nat → DataW H} {f : Nat → Nat} : ∀ (n : Nat), (∀ i, i < n → f i + 1 ≤ Rows.uptoBulk (D i)) → ((List.range n).map f).sum + n ≤ Rows.uptoBulkAll ((List.range n).map D)
  | 0, _ => by simp
  | n + 1, h => by
    have h1 := bk_row n fun i hi => h i (by omega)
    have h2 := h n (by omega)
    have e : ∀ (a b : List (DataW H)), Rows.uptoBulkAll (a ++ b) = Rows.uptoBulkAll a + Rows.uptoBulkAll b := fun a b => by
      induction a with
      | nil => simp [Rows.uptoBulkAll]
      | cons x r ih => simp only [List.cons_append, Rows.uptoBulkAll, ih]; omega
    rw [List.range_succ, List.map_append, List.map_append, List.sum_append, e]
    simp only [List.map_cons, List.map_nil, List.sum_cons, List.sum_nil, Rows.uptoBulkAll]
    omega
theorem bk_str {H : Type} (s : ByteArray) : Rows.uptoBulk (DataW.lit (H := H) (.string s.data.toList)) = s.size + 1 := by
  have : s.data.toList.length = s.size := by simp
  simp only [Rows.uptoBulk]
  omega
theorem listL2 {α : Type} (l : List α) (h : l.length = 2) : ∃ c0 c1, l = [c0, c1] := by
  match l, h with
  | [c0, c1], _ => exact ⟨c0, c1, rfl⟩
theorem listL3 {α : Type} (l : List α) (h : l.length = 3) : ∃ c0 c1 c2, l = [c0, c1, c2] := by
  match l, h with
  | [c0, c1, c2], _ => exact ⟨c0, c1, c2, rfl⟩
theorem listL4 {α : Type} (l : List α) (h : l.length = 4) : ∃ c0 c1 c2 c3, l = [c0, c1, c2, c3] := by
  match l, h with
  | [c0, c1, c2, c3], _ => exact ⟨c0, c1, c2, c3, rfl⟩
theorem listL5 {α : Type} (l : List α) (h : l.length = 5) : ∃ c0 c1 c2 c3 c4, l = [c0, c1, c2, c3, c4] := by
  match l, h with
  | [c0, c1, c2, c3, c4], _ => exact ⟨c0, c1, c2, c3, c4, rfl⟩
theorem listL9 {α : Type} (l : List α) (h : l.length = 9) : ∃ c0 c1 c2 c3 c4 c5 c6 c7 c8, l = [c0, c1, c2, c3, c4, c5, c6, c7, c8] := by
  match l, h with
  | [c0, c1, c2, c3, c4, c5, c6, c7, c8], _ => exact ⟨c0, c1, c2, c3, c4, c5, c6, c7, c8, rfl⟩
theorem listL11 {α : Type} (l : List α) (h : l.length = 11) : ∃ c0 c1 c2 c3 c4 c5 c6 c7 c8 c9 c10, l = [c0, c1, c2, c3, c4, c5, c6, c7, c8, c9, c10] := by
  match l, h with
  | [c0, c1, c2, c3, c4, c5, c6, c7, c8, c9, c10], _ => exact ⟨c0, c1, c2, c3, c4, c5, c6, c7, c8, c9, c10, rfl⟩
set_option maxRecDepth 100000 in
theorem nm_trod {H : Type} {enc : TypeId × Value → H} {W : World} {base fuel : Nat} {sp : Nat → Bool} {held : Bool} {c0 c1 : Value} {y : DataW H × List MemPlace}
    (h : DataW.trod enc Tryd.prog W base sp held fuel 48 [c0, c1] = some y) : ∃ x : Nm, rgNm x ∧ [c0, c1] = (nmC x).toList ∧ x.id.size + 1 ≤ Rows.uptoBulk y.1 := by
  have _h2 : Tryd.prog.cellsOf 3 = 1 := by kernel_rfl
  have _h3 : Tryd.prog.cellsOf 9 = 1 := by kernel_rfl
  obtain ⟨xs, n, _, hx, _, hlen, hg⟩ := DataW.trod_struct Tryd.underlying48 h
  obtain ⟨y0, y1, rfl⟩ := listL2 xs hlen
  have g0 := hg 0 _ rfl
  have g1 := hg 1 _ rfl
  obtain ⟨x0, e0, _, wf0⟩ := DataW.trod_int Tryd.underlying3 g0
  obtain rfl : c0 = .int .i64 x0 := (List.cons.inj (show [c0] = [.int .i64 x0] from e0)).1
  obtain ⟨x1, e1, q1, sb1⟩ := DataW.trod_string Tryd.underlying9 g1
  obtain rfl : c1 = .string x1 := (List.cons.inj (show [c1] = [.string x1] from e1)).1
  have hy : Rows.uptoBulk y.1 = Rows.uptoBulkAll [y0.1, y1.1] + 1 := by
    rw [hx]
    simp only [List.map_cons, List.map_nil, Rows.uptoBulk]
  have hs1 : Rows.uptoBulk y1.1 = x1.size + 1 := by rw [q1]; exact bk_str _
  simp only [Rows.uptoBulkAll] at hy
  exact ⟨⟨x0, x1⟩, ⟨bounds_i64 wf0, sb1⟩, rfl, by show x1.size + 1 ≤ _; omega⟩

set_option maxRecDepth 100000 in
theorem cp_trod {H : Type} {enc : TypeId × Value → H} {W : World} {base fuel : Nat} {sp : Nat → Bool} {held : Bool} {c0 c1 : Value} {y : DataW H × List MemPlace}
    (h : DataW.trod enc Tryd.prog W base sp held fuel 110 [c0, c1] = some y) : ∃ x : Cp, rgCp x ∧ [c0, c1] = (cpC x).toList ∧ 0 + 1 ≤ Rows.uptoBulk y.1 := by
  have _h2 : Tryd.prog.cellsOf 3 = 1 := by kernel_rfl
  have _h3 : Tryd.prog.cellsOf 9 = 1 := by kernel_rfl
  obtain ⟨xs, n, _, hx, _, hlen, hg⟩ := DataW.trod_struct Tryd.underlying110 h
  obtain ⟨y0, y1, rfl⟩ := listL2 xs hlen
  have g0 := hg 0 _ rfl
  have g1 := hg 1 _ rfl
  obtain ⟨x0, e0, _, wf0⟩ := DataW.trod_int Tryd.underlying3 g0
  obtain rfl : c0 = .int .i64 x0 := (List.cons.inj (show [c0] = [.int .i64 x0] from e0)).1
  obtain ⟨x1, e1, _, wf1⟩ := DataW.trod_int Tryd.underlying3 g1
  obtain rfl : c1 = .int .i64 x1 := (List.cons.inj (show [c1] = [.int .i64 x1] from e1)).1
  have hy : Rows.uptoBulk y.1 = Rows.uptoBulkAll [y0.1, y1.1] + 1 := by
    rw [hx]
    simp only [List.map_cons, List.map_nil, Rows.uptoBulk]
  simp only [Rows.uptoBulkAll] at hy
  exact ⟨⟨x0, x1⟩, ⟨bounds_i64 wf0, bounds_i64 wf1⟩, rfl, by omega⟩

/- A cell that reads as a list of capabilities. -/
set_option maxRecDepth 100000 in
theorem cps_cell {H : Type} {enc : TypeId × Value → H} {W : World} {fuel : Nat} {z0 : Value} {y : DataW H × List MemPlace}
    (hf : DataW.trod enc Tryd.prog W 0 (fun _ => true) true fuel 50 [z0] = some y) : ∃ (a : Option Addr) (c : Nat) (l : List Cp), z0 = .slice a l.length c ∧ l.length ≤ c ∧ c ≤ maxLen ∧ CpIn W a l ∧ (∀ x ∈ l, rgCp x) ∧ (l.map fun x => 0).sum + l.length ≤ Rows.uptoBulk y.1 := by
  have hs : Tryd.prog.underlying 50 = some (.slice 110) := by kernel_rfl
  have hc3 : Tryd.prog.cellsOf 110 = 2 := by kernel_rfl
  rcases open_slice hs hf with ⟨hc, hx⟩ | ⟨b, n, c, m, k, D, Pl, hc, hb, hl, hm, hmm, hx, hall⟩
  · simp at hc
    subst hc
    exact ⟨none, 0, [], rfl, Nat.le_refl _, by decide, Or.inl rfl, by simp, by simp⟩
  · simp at hc
    subst hc
    have hlm : n ≤ m := by rw [hmm]; split <;> omega
    have each : ∀ i, i < n → ∃ t : Cp, (rgCp t ∧ 0 + 1 ≤ Rows.uptoBulk (D i)) ∧ ∀ (j : Nat) (x : Value), (cpC t)[j]? = some x → W.cell? (b.add (i * 2 + j)) = some x := by
      intro i hi
      obtain ⟨cs', h1, h2⟩ := hall i (by omega)
      rw [hc3] at h1
      obtain ⟨_, hlen, hcell⟩ := World.cells?_some h1
      obtain ⟨c0, c1, rfl⟩ := listL2 cs' hlen
      obtain ⟨t, ht, he, hbk⟩ := cp_trod h2
      refine ⟨t, ⟨ht, hbk⟩, fun j x hj => ?_⟩
      have hj2 : j < 2 := (Array.getElem?_eq_some_iff.1 hj).1
      have g := hcell j (by omega)
      rw [add_add] at g
      rw [g]
      have e2 : ([c0, c1] : List Value)[j]? = some x := by rw [he]; simpa using hj
      exact e2
    obtain ⟨z, hz⟩ := choose_lt each
    obtain ⟨bb, bo, bs⟩ := b
    rcases Nat.eq_zero_or_pos n with rfl | q0
    · exact ⟨some ⟨bb, bo, bs⟩, c, [], rfl, hl, hm, Or.inl rfl, by simp, by simp⟩
    have h0 := (hz 0 q0).2 0 _ rfl
    have hspot : bs = none := by simpa [Addr.add] using World.cell?_spot h0
    subst hspot
    refine ⟨some ⟨bb, bo, none⟩, c, (List.range n).map z, by simp, by simpa using hl, hm, Or.inr ⟨bb, bo, rfl, ?_, fun j hj k x hx => ?_⟩, ?_, ?_⟩
    · have := World.block_lt_of_cell? W _ h0
      simpa [Addr.add] using this
    · have hj' : j < n := by simpa using hj
      simp only [List.getElem_map, List.getElem_range] at hx
      have e0 := (hz j hj').2 k x hx
      rw [add_plain] at e0
      rw [Nat.add_assoc]
      exact e0
    · intro v hv
      obtain ⟨j, hj, rfl⟩ := List.mem_map.1 hv
      exact (hz j (List.mem_range.1 hj)).1.1
    · have hrow := bk_row n fun i hi => (hz i hi).1.2
      rw [hx]
      rw [List.map_map, List.length_map, List.length_range]
      simp only [Rows.uptoBulk]
      have e : ((List.range n).map ((fun x => 0) ∘ z)).sum = ((List.range n).map fun i => 0).sum := rfl
      omega


set_option maxRecDepth 100000 in
theorem mg_trod {H : Type} {enc : TypeId × Value → H} {W : World} {base fuel : Nat} {sp : Nat → Bool} {held : Bool} {c0 c1 c2 c3 c4 : Value} {y : DataW H × List MemPlace}
    (h : DataW.trod enc Tryd.prog W base sp held fuel 114 [c0, c1, c2, c3, c4] = some y) : ∃ x : Mg, rgMg x ∧ [c0, c1, c2, c3, c4] = (mgC x).toList ∧ (x.ai.size + x.oid.size) + 1 ≤ Rows.uptoBulk y.1 := by
  have _h2 : Tryd.prog.cellsOf 3 = 1 := by kernel_rfl
  have _h3 : Tryd.prog.cellsOf 9 = 1 := by kernel_rfl
  have _h4 : Tryd.prog.cellsOf 48 = 2 := by kernel_rfl
  obtain ⟨xs, n, _, hx, _, hlen, hg⟩ := DataW.trod_struct Tryd.underlying114 h
  obtain ⟨y0, y1, y2, y3, rfl⟩ := listL4 xs hlen
  have g0 := hg 0 _ rfl
  have g1 := hg 1 _ rfl
  have g2 := hg 2 _ rfl
  have g3 := hg 3 _ rfl
  obtain ⟨z0, rz0, ez0, bz0⟩ := nm_trod g0
  simp only [nmC, List.cons.injEq, and_true] at ez0
  obtain ⟨rfl, rfl⟩ := ez0
  obtain ⟨x1, e1, _, wf1⟩ := DataW.trod_int Tryd.underlying3 g1
  obtain rfl : c2 = .int .i64 x1 := (List.cons.inj (show [c2] = [.int .i64 x1] from e1)).1
  obtain ⟨x2, e2, _, wf2⟩ := DataW.trod_int Tryd.underlying3 g2
  obtain rfl : c3 = .int .i64 x2 := (List.cons.inj (show [c3] = [.int .i64 x2] from e2)).1
  obtain ⟨x3, e3, q3, sb3⟩ := DataW.trod_string Tryd.underlying9 g3
  obtain rfl : c4 = .string x3 := (List.cons.inj (show [c4] = [.string x3] from e3)).1
  have hy : Rows.uptoBulk y.1 = Rows.uptoBulkAll [y0.1, y1.1, y2.1, y3.1] + 1 := by
    rw [hx]
    simp only [List.map_cons, List.map_nil, Rows.uptoBulk]
  have hs3 : Rows.uptoBulk y3.1 = x3.size + 1 := by rw [q3]; exact bk_str _
  simp only [Rows.uptoBulkAll] at hy
  exact ⟨⟨z0.su, z0.id, x1, x2, x3⟩, ⟨rz0.1, bounds_i64 wf1, bounds_i64 wf2, rz0.2, sb3⟩, rfl, by show (z0.id.size + x3.size) + 1 ≤ _; omega⟩

/- A cell that reads as a list of ways to manage. -/
set_option maxRecDepth 100000 in
theorem mgs_cell {H : Type} {enc : TypeId × Value → H} {W : World} {fuel : Nat} {z0 : Value} {y : DataW H × List MemPlace}
    (hf : DataW.trod enc Tryd.prog W 0 (fun _ => true) true fuel 51 [z0] = some y) : ∃ (a : Option Addr) (c : Nat) (l : List Mg), z0 = .slice a l.length c ∧ l.length ≤ c ∧ c ≤ maxLen ∧ MgIn W a l ∧ (∀ x ∈ l, rgMg x) ∧ (l.map fun x => (x.ai.size + x.oid.size)).sum + l.length ≤ Rows.uptoBulk y.1 := by
  have hs : Tryd.prog.underlying 51 = some (.slice 114) := by kernel_rfl
  have hc3 : Tryd.prog.cellsOf 114 = 5 := by kernel_rfl
  rcases open_slice hs hf with ⟨hc, hx⟩ | ⟨b, n, c, m, k, D, Pl, hc, hb, hl, hm, hmm, hx, hall⟩
  · simp at hc
    subst hc
    exact ⟨none, 0, [], rfl, Nat.le_refl _, by decide, Or.inl rfl, by simp, by simp⟩
  · simp at hc
    subst hc
    have hlm : n ≤ m := by rw [hmm]; split <;> omega
    have each : ∀ i, i < n → ∃ t : Mg, (rgMg t ∧ (t.ai.size + t.oid.size) + 1 ≤ Rows.uptoBulk (D i)) ∧ ∀ (j : Nat) (x : Value), (mgC t)[j]? = some x → W.cell? (b.add (i * 5 + j)) = some x := by
      intro i hi
      obtain ⟨cs', h1, h2⟩ := hall i (by omega)
      rw [hc3] at h1
      obtain ⟨_, hlen, hcell⟩ := World.cells?_some h1
      obtain ⟨c0, c1, c2, c3, c4, rfl⟩ := listL5 cs' hlen
      obtain ⟨t, ht, he, hbk⟩ := mg_trod h2
      refine ⟨t, ⟨ht, hbk⟩, fun j x hj => ?_⟩
      have hj2 : j < 5 := (Array.getElem?_eq_some_iff.1 hj).1
      have g := hcell j (by omega)
      rw [add_add] at g
      rw [g]
      have e2 : ([c0, c1, c2, c3, c4] : List Value)[j]? = some x := by rw [he]; simpa using hj
      exact e2
    obtain ⟨z, hz⟩ := choose_lt each
    obtain ⟨bb, bo, bs⟩ := b
    rcases Nat.eq_zero_or_pos n with rfl | q0
    · exact ⟨some ⟨bb, bo, bs⟩, c, [], rfl, hl, hm, Or.inl rfl, by simp, by simp⟩
    have h0 := (hz 0 q0).2 0 _ rfl
    have hspot : bs = none := by simpa [Addr.add] using World.cell?_spot h0
    subst hspot
    refine ⟨some ⟨bb, bo, none⟩, c, (List.range n).map z, by simp, by simpa using hl, hm, Or.inr ⟨bb, bo, rfl, ?_, fun j hj k x hx => ?_⟩, ?_, ?_⟩
    · have := World.block_lt_of_cell? W _ h0
      simpa [Addr.add] using this
    · have hj' : j < n := by simpa using hj
      simp only [List.getElem_map, List.getElem_range] at hx
      have e0 := (hz j hj').2 k x hx
      rw [add_plain] at e0
      rw [Nat.add_assoc]
      exact e0
    · intro v hv
      obtain ⟨j, hj, rfl⟩ := List.mem_map.1 hv
      exact (hz j (List.mem_range.1 hj)).1.1
    · have hrow := bk_row n fun i hi => (hz i hi).1.2
      rw [hx]
      rw [List.map_map, List.length_map, List.length_range]
      simp only [Rows.uptoBulk]
      have e : ((List.range n).map ((fun x => (x.ai.size + x.oid.size)) ∘ z)).sum = ((List.range n).map fun i => ((z i).ai.size + (z i).oid.size)).sum := rfl
      omega


set_option maxRecDepth 100000 in
theorem og_trod {H : Type} {enc : TypeId × Value → H} {W : World} {base fuel : Nat} {sp : Nat → Bool} {held : Bool} {c0 c1 c2 : Value} {y : DataW H × List MemPlace}
    (h : DataW.trod enc Tryd.prog W base sp held fuel 61 [c0, c1, c2] = some y) : ∃ x : Og, rgOg x ∧ [c0, c1, c2] = (ogC x).toList ∧ x.nf.size + 1 ≤ Rows.uptoBulk y.1 := by
  have _h2 : Tryd.prog.cellsOf 3 = 1 := by kernel_rfl
  have _h3 : Tryd.prog.cellsOf 9 = 1 := by kernel_rfl
  obtain ⟨xs, n, _, hx, _, hlen, hg⟩ := DataW.trod_struct Tryd.underlying61 h
  obtain ⟨y0, y1, y2, rfl⟩ := listL3 xs hlen
  have g0 := hg 0 _ rfl
  have g1 := hg 1 _ rfl
  have g2 := hg 2 _ rfl
  obtain ⟨x0, e0, _, wf0⟩ := DataW.trod_int Tryd.underlying3 g0
  obtain rfl : c0 = .int .i64 x0 := (List.cons.inj (show [c0] = [.int .i64 x0] from e0)).1
  obtain ⟨x1, e1, _, wf1⟩ := DataW.trod_int Tryd.underlying3 g1
  obtain rfl : c1 = .int .i64 x1 := (List.cons.inj (show [c1] = [.int .i64 x1] from e1)).1
  obtain ⟨x2, e2, q2, sb2⟩ := DataW.trod_string Tryd.underlying9 g2
  obtain rfl : c2 = .string x2 := (List.cons.inj (show [c2] = [.string x2] from e2)).1
  have hy : Rows.uptoBulk y.1 = Rows.uptoBulkAll [y0.1, y1.1, y2.1] + 1 := by
    rw [hx]
    simp only [List.map_cons, List.map_nil, Rows.uptoBulk]
  have hs2 : Rows.uptoBulk y2.1 = x2.size + 1 := by rw [q2]; exact bk_str _
  simp only [Rows.uptoBulkAll] at hy
  exact ⟨⟨x0, x1, x2⟩, ⟨bounds_i64 wf0, bounds_i64 wf1, sb2⟩, rfl, by show x2.size + 1 ≤ _; omega⟩

/- A cell that reads as a list of what organisations tell. -/
set_option maxRecDepth 100000 in
theorem ogs_cell {H : Type} {enc : TypeId × Value → H} {W : World} {fuel : Nat} {z0 : Value} {y : DataW H × List MemPlace}
    (hf : DataW.trod enc Tryd.prog W 0 (fun _ => true) true fuel 52 [z0] = some y) : ∃ (a : Option Addr) (c : Nat) (l : List Og), z0 = .slice a l.length c ∧ l.length ≤ c ∧ c ≤ maxLen ∧ OgIn W a l ∧ (∀ x ∈ l, rgOg x) ∧ (l.map fun x => x.nf.size).sum + l.length ≤ Rows.uptoBulk y.1 := by
  have hs : Tryd.prog.underlying 52 = some (.slice 61) := by kernel_rfl
  have hc3 : Tryd.prog.cellsOf 61 = 3 := by kernel_rfl
  rcases open_slice hs hf with ⟨hc, hx⟩ | ⟨b, n, c, m, k, D, Pl, hc, hb, hl, hm, hmm, hx, hall⟩
  · simp at hc
    subst hc
    exact ⟨none, 0, [], rfl, Nat.le_refl _, by decide, Or.inl rfl, by simp, by simp⟩
  · simp at hc
    subst hc
    have hlm : n ≤ m := by rw [hmm]; split <;> omega
    have each : ∀ i, i < n → ∃ t : Og, (rgOg t ∧ t.nf.size + 1 ≤ Rows.uptoBulk (D i)) ∧ ∀ (j : Nat) (x : Value), (ogC t)[j]? = some x → W.cell? (b.add (i * 3 + j)) = some x := by
      intro i hi
      obtain ⟨cs', h1, h2⟩ := hall i (by omega)
      rw [hc3] at h1
      obtain ⟨_, hlen, hcell⟩ := World.cells?_some h1
      obtain ⟨c0, c1, c2, rfl⟩ := listL3 cs' hlen
      obtain ⟨t, ht, he, hbk⟩ := og_trod h2
      refine ⟨t, ⟨ht, hbk⟩, fun j x hj => ?_⟩
      have hj2 : j < 3 := (Array.getElem?_eq_some_iff.1 hj).1
      have g := hcell j (by omega)
      rw [add_add] at g
      rw [g]
      have e2 : ([c0, c1, c2] : List Value)[j]? = some x := by rw [he]; simpa using hj
      exact e2
    obtain ⟨z, hz⟩ := choose_lt each
    obtain ⟨bb, bo, bs⟩ := b
    rcases Nat.eq_zero_or_pos n with rfl | q0
    · exact ⟨some ⟨bb, bo, bs⟩, c, [], rfl, hl, hm, Or.inl rfl, by simp, by simp⟩
    have h0 := (hz 0 q0).2 0 _ rfl
    have hspot : bs = none := by simpa [Addr.add] using World.cell?_spot h0
    subst hspot
    refine ⟨some ⟨bb, bo, none⟩, c, (List.range n).map z, by simp, by simpa using hl, hm, Or.inr ⟨bb, bo, rfl, ?_, fun j hj k x hx => ?_⟩, ?_, ?_⟩
    · have := World.block_lt_of_cell? W _ h0
      simpa [Addr.add] using this
    · have hj' : j < n := by simpa using hj
      simp only [List.getElem_map, List.getElem_range] at hx
      have e0 := (hz j hj').2 k x hx
      rw [add_plain] at e0
      rw [Nat.add_assoc]
      exact e0
    · intro v hv
      obtain ⟨j, hj, rfl⟩ := List.mem_map.1 hv
      exact (hz j (List.mem_range.1 hj)).1.1
    · have hrow := bk_row n fun i hi => (hz i hi).1.2
      rw [hx]
      rw [List.map_map, List.length_map, List.length_range]
      simp only [Rows.uptoBulk]
      have e : ((List.range n).map ((fun x => x.nf.size) ∘ z)).sum = ((List.range n).map fun i => (z i).nf.size).sum := rfl
      omega


theorem listL1 {α : Type} (l : List α) (h : l.length = 1) : ∃ c0, l = [c0] := by
  match l, h with
  | [c0], _ => exact ⟨c0, rfl⟩
theorem st_trod {H : Type} {enc : TypeId × Value → H} {W : World} {base fuel : Nat} {sp : Nat → Bool} {held : Bool} {c0 : Value} {y : DataW H × List MemPlace}
    (h : DataW.trod enc Tryd.prog W base sp held fuel 9 [c0] = some y) : ∃ x : ByteArray, x.size ≤ maxLen ∧ [c0] = (stC x).toList ∧ 0 + 1 ≤ Rows.uptoBulk y.1 := by
  obtain ⟨x1, e1, q1, sb1⟩ := DataW.trod_string Tryd.underlying9 h
  obtain rfl : c0 = .string x1 := (List.cons.inj (show [c0] = [.string x1] from e1)).1
  exact ⟨x1, sb1, rfl, by rw [q1]; rw [show Rows.uptoBulk (DataW.lit (H := H) (.string x1.data.toList)) = x1.size + 1 from bk_str _]; omega⟩
/- A cell that reads as a list of capabilities. -/
set_option maxRecDepth 100000 in
theorem sts_cell {H : Type} {enc : TypeId × Value → H} {W : World} {fuel : Nat} {z0 : Value} {y : DataW H × List MemPlace}
    (hf : DataW.trod enc Tryd.prog W 0 (fun _ => true) true fuel 49 [z0] = some y) : ∃ (a : Option Addr) (c : Nat) (l : List ByteArray), z0 = .slice a l.length c ∧ l.length ≤ c ∧ c ≤ maxLen ∧ StIn W a l ∧ (∀ x ∈ l, x.size ≤ maxLen) ∧ (l.map fun x => 0).sum + l.length ≤ Rows.uptoBulk y.1 := by
  have hs : Tryd.prog.underlying 49 = some (.slice 9) := by kernel_rfl
  have hc3 : Tryd.prog.cellsOf 9 = 1 := by kernel_rfl
  rcases open_slice hs hf with ⟨hc, hx⟩ | ⟨b, n, c, m, k, D, Pl, hc, hb, hl, hm, hmm, hx, hall⟩
  · simp at hc
    subst hc
    exact ⟨none, 0, [], rfl, Nat.le_refl _, by decide, Or.inl rfl, by simp, by simp⟩
  · simp at hc
    subst hc
    have hlm : n ≤ m := by rw [hmm]; split <;> omega
    have each : ∀ i, i < n → ∃ t : ByteArray, (t.size ≤ maxLen ∧ 0 + 1 ≤ Rows.uptoBulk (D i)) ∧ ∀ (j : Nat) (x : Value), (stC t)[j]? = some x → W.cell? (b.add (i * 1 + j)) = some x := by
      intro i hi
      obtain ⟨cs', h1, h2⟩ := hall i (by omega)
      rw [hc3] at h1
      obtain ⟨_, hlen, hcell⟩ := World.cells?_some h1
      obtain ⟨c0, rfl⟩ := listL1 cs' hlen
      obtain ⟨t, ht, he, hbk⟩ := st_trod h2
      refine ⟨t, ⟨ht, hbk⟩, fun j x hj => ?_⟩
      have hj2 : j < 1 := (Array.getElem?_eq_some_iff.1 hj).1
      have g := hcell j (by omega)
      rw [add_add] at g
      rw [g]
      have e2 : ([c0] : List Value)[j]? = some x := by rw [he]; simpa using hj
      exact e2
    obtain ⟨z, hz⟩ := choose_lt each
    obtain ⟨bb, bo, bs⟩ := b
    rcases Nat.eq_zero_or_pos n with rfl | q0
    · exact ⟨some ⟨bb, bo, bs⟩, c, [], rfl, hl, hm, Or.inl rfl, by simp, by simp⟩
    have h0 := (hz 0 q0).2 0 _ rfl
    have hspot : bs = none := by simpa [Addr.add] using World.cell?_spot h0
    subst hspot
    refine ⟨some ⟨bb, bo, none⟩, c, (List.range n).map z, by simp, by simpa using hl, hm, Or.inr ⟨bb, bo, rfl, ?_, fun j hj k x hx => ?_⟩, ?_, ?_⟩
    · have := World.block_lt_of_cell? W _ h0
      simpa [Addr.add] using this
    · have hj' : j < n := by simpa using hj
      simp only [List.getElem_map, List.getElem_range] at hx
      have e0 := (hz j hj').2 k x hx
      rw [add_plain] at e0
      rw [Nat.add_assoc]
      exact e0
    · intro v hv
      obtain ⟨j, hj, rfl⟩ := List.mem_map.1 hv
      exact (hz j (List.mem_range.1 hj)).1.1
    · have hrow := bk_row n fun i hi => (hz i hi).1.2
      rw [hx]
      rw [List.map_map, List.length_map, List.length_range]
      simp only [Rows.uptoBulk]
      have e : ((List.range n).map ((fun x => 0) ∘ z)).sum = ((List.range n).map fun i => 0).sum := rfl
      omega


/-- What counts of an announcement. -/
def bulkLd (x : Ld) : Nat := x.ch.id.size + x.po.id.size + ((x.de.map fun _ => 0).sum + x.de.length) + ((x.ho.map fun _ => 0).sum + x.ho.length) + ((x.sy.map fun _ => 0).sum + x.sy.length) + ((x.ca.map fun _ => 0).sum + x.ca.length) + ((x.ma.map fun x => (x.ai.size + x.oid.size)).sum + x.ma.length) + ((x.og.map fun x => x.nf.size).sum + x.og.length)
set_option maxRecDepth 100000 in
theorem open_ld {H : Type} {enc : TypeId × Value → H} {W : World} {base : Nat} {v : Value} {d : DataW H} {p : List MemPlace} (hval : Value.okWide Tryd.prog W .any base 54 v)
    (h : DataW.Trod enc Tryd.prog W 0 (fun _ => true) true 54 v d p) : ∃ (x : Ld) (q : LdA), (rgLd x ∧ LdIn W x q ∧ (∀ y ∈ x.de, y.size ≤ maxLen) ∧ (∀ y ∈ x.ho, y.size ≤ maxLen) ∧ (∀ y ∈ x.sy, y.size ≤ maxLen) ∧ bulkLd x ≤ Rows.uptoBulk d) ∧ v = .agg (ldC x q) := by
  have hcn : Tryd.prog.cellsOf 54 = 11 := by kernel_rfl
  have _h1 : Tryd.prog.cellsOf 48 = 2 := by kernel_rfl
  have _h2 : Tryd.prog.cellsOf 3 = 1 := by kernel_rfl
  have _h3 : Tryd.prog.cellsOf 49 = 1 := by kernel_rfl
  have _h4 : Tryd.prog.cellsOf 50 = 1 := by kernel_rfl
  have _h5 : Tryd.prog.cellsOf 51 = 1 := by kernel_rfl
  have _h6 : Tryd.prog.cellsOf 52 = 1 := by kernel_rfl
  obtain ⟨cs, rfl, hsz⟩ := okWide_struct Tryd.underlying54 hval
  rw [hcn] at hsz
  obtain ⟨l⟩ := cs
  obtain ⟨c0, c1, c2, c3, c4, c5, c6, c7, c8, c9, c10, rfl⟩ := listL11 l hsz
  obtain ⟨fuel, hf⟩ := h
  have h : DataW.trod enc Tryd.prog W 0 (fun _ => true) true fuel 54 [c0, c1, c2, c3, c4, c5, c6, c7, c8, c9, c10] = some (d, p) := by simpa [Value.cells] using hf
  obtain ⟨xs, n, _, hx, _, hlen, hg⟩ := DataW.trod_struct Tryd.underlying54 h
  obtain ⟨y0, y1, y2, y3, y4, y5, y6, y7, y8, rfl⟩ := listL9 xs hlen
  have g0 := hg 0 _ rfl
  have g1 := hg 1 _ rfl
  have g2 := hg 2 _ rfl
  have g3 := hg 3 _ rfl
  have g4 := hg 4 _ rfl
  have g5 := hg 5 _ rfl
  have g6 := hg 6 _ rfl
  have g7 := hg 7 _ rfl
  have g8 := hg 8 _ rfl
  obtain ⟨z0, rz0, ez0, bz0⟩ := nm_trod g0
  simp only [nmC, List.cons.injEq, and_true] at ez0
  obtain ⟨rfl, rfl⟩ := ez0
  obtain ⟨z1, rz1, ez1, bz1⟩ := nm_trod g1
  simp only [nmC, List.cons.injEq, and_true] at ez1
  obtain ⟨rfl, rfl⟩ := ez1
  obtain ⟨x2, e2, _, wf2⟩ := DataW.trod_int Tryd.underlying3 g2
  obtain rfl : c4 = .int .i64 x2 := (List.cons.inj (show [c4] = [.int .i64 x2] from e2)).1
  obtain ⟨a3, k3, l3, rfl, hlc3, hcm3, hin3, hall3, hbk3⟩ := sts_cell g3
  obtain ⟨a4, k4, l4, rfl, hlc4, hcm4, hin4, hall4, hbk4⟩ := sts_cell g4
  obtain ⟨a5, k5, l5, rfl, hlc5, hcm5, hin5, hall5, hbk5⟩ := sts_cell g5
  obtain ⟨a6, k6, l6, rfl, hlc6, hcm6, hin6, hall6, hbk6⟩ := cps_cell g6
  obtain ⟨a7, k7, l7, rfl, hlc7, hcm7, hin7, hall7, hbk7⟩ := mgs_cell g7
  obtain ⟨a8, k8, l8, rfl, hlc8, hcm8, hin8, hall8, hbk8⟩ := ogs_cell g8
  have hd : Rows.uptoBulk d = Rows.uptoBulkAll [y0.1, y1.1, y2.1, y3.1, y4.1, y5.1, y6.1, y7.1, y8.1] + 1 := by
    simp only [Prod.mk.injEq] at hx
    rw [hx.1]
    simp only [List.map_cons, List.map_nil, Rows.uptoBulk]
  simp only [Rows.uptoBulkAll] at hd
  exact ⟨⟨z0, z1, x2, l3, l4, l5, l6, l7, l8⟩, ⟨(a3, k3), (a4, k4), (a5, k5), (a6, k6), (a7, k7), (a8, k8)⟩, ⟨⟨rz0, rz1, bounds_i64 wf2, hall6, hall7, hall8, Nat.le_trans hlc3 hcm3, Nat.le_trans hlc4 hcm4, Nat.le_trans hlc5 hcm5, Nat.le_trans hlc6 hcm6, Nat.le_trans hlc7 hcm7, Nat.le_trans hlc8 hcm8⟩, ⟨hin3, hin4, hin5, hin6, hin7, hin8⟩, hall3, hall4, hall5, by unfold bulkLd; dsimp only; omega⟩, rfl⟩

end Go.Proofs.YticjmjoiggnblaaDoor
/- switchyardlaw.big: how much an announcement tells. -/
namespace Go.Proofs.YticjmjoiggnblaaDoor
open Go.RowKit
attribute [local go_sem ↓] Go.wp_at_zero Go.wp_at_succ
set_option linter.unusedSimpArgs false
set_option linter.unusedVariables false
set_option maxRecDepth 100000

def nfs (l : List Og) : Nat := (l.map fun y => y.nf.size / 20).sum
theorem nfs_take (l : List Og) (k : Nat) (hk : k < l.length) : nfs (l.take (k + 1)) = nfs (l.take k) + l[k].nf.size / 20 := by
  unfold nfs
  rw [List.take_add_one, List.getElem?_eq_getElem hk, List.map_append, List.sum_append]
  simp
theorem nfs_le (l : List Og) (k : Nat) : nfs (l.take k) ≤ nfs l := by
  have h : nfs l = nfs (l.take k) + nfs (l.drop k) := by
    unfold nfs
    rw [← List.sum_append, ← List.map_append, List.take_append_drop]
  omega
theorem nfs_mem (l : List Og) {y : Og} (hy : y ∈ l) : y.nf.size / 20 ≤ nfs l := by
  unfold nfs
  induction l with
  | nil => cases hy
  | cons z r ih =>
    simp only [List.map_cons, List.sum_cons]
    rcases List.mem_cons.1 hy with rfl | h
    · omega
    · have := ih h
      omega
def lensL (x : Ld) : Nat := x.ma.length + x.og.length + x.de.length + x.ho.length + x.sy.length + x.ca.length

set_option maxHeartbeats 3200000 in
theorem big_any (x : Ld) (q : LdA) (w : World) (h : LdIn w x q) (hl : lensL x ≤ 2000000) (hn : nfs x.og ≤ 2000000) :
    Calls Tryd.prog 21 #[.agg (ldC x q)] w fun e w' => e = .returned (.bool (decide ((700 : Int) < ((lensL x + nfs x.og : Nat) : Int)))) ∧ Below w.heap.size w w' := by
  obtain ⟨⟨qd, qdc⟩, ⟨qh, qhc⟩, ⟨qs, qsc⟩, ⟨qc, qcc⟩, ⟨qm, qmc⟩, ⟨qo, qoc⟩⟩ := q
  obtain ⟨i1, i2, i3, i4, i5, i6⟩ := h
  obtain ⟨ch, po, tt, de, ho, sy, ca, ma, og⟩ := x
  dsimp only at i6 hn
  have hl2 : ma.length + og.length + de.length + ho.length + sy.length + ca.length ≤ 2000000 := hl
  obtain ⟨N0, hN0⟩ : ∃ N0, N0 = lensL (⟨ch, po, tt, de, ho, sy, ca, ma, og⟩ : Ld) := ⟨_, rfl⟩
  have hN1 : N0 = ma.length + og.length + de.length + ho.length + sy.length + ca.length := hN0
  rw [← hN0]
  dsimp only
  have HA0 := Blk.new w 54 (ldC ⟨ch, po, tt, de, ho, sy, ca, ma, og⟩ ⟨(qd, qdc), (qh, qhc), (qs, qsc), (qc, qcc), (qm, qmc), (qo, qoc)⟩)
  have B0 : Below w.heap.size w (w.alloc (.cells (ldC ⟨ch, po, tt, de, ho, sy, ca, ma, og⟩ ⟨(qd, qdc), (qh, qhc), (qs, qsc), (qc, qcc), (qm, qmc), (qo, qoc)⟩) 54)) := (Below.refl _ _).alloc (Nat.le_refl _) _
  have s1 : IntKind.i64.wrap ((ma.length : Int) + (og.length : Int)) = (ma.length : Int) + (og.length : Int) := by rw [IntKind.wrap_i64] <;> omega
  have s2 : IntKind.i64.wrap ((ma.length : Int) + (og.length : Int) + (de.length : Int)) = (ma.length : Int) + (og.length : Int) + (de.length : Int) := by rw [IntKind.wrap_i64] <;> omega
  have s3 : IntKind.i64.wrap ((ma.length : Int) + (og.length : Int) + (de.length : Int) + (ho.length : Int)) = (ma.length : Int) + (og.length : Int) + (de.length : Int) + (ho.length : Int) := by rw [IntKind.wrap_i64] <;> omega
  have s4 : IntKind.i64.wrap ((ma.length : Int) + (og.length : Int) + (de.length : Int) + (ho.length : Int) + (sy.length : Int)) = (ma.length : Int) + (og.length : Int) + (de.length : Int) + (ho.length : Int) + (sy.length : Int) := by rw [IntKind.wrap_i64] <;> omega
  have s5 : IntKind.i64.wrap ((ma.length : Int) + (og.length : Int) + (de.length : Int) + (ho.length : Int) + (sy.length : Int) + (ca.length : Int)) = (N0 : Int) := by rw [IntKind.wrap_i64] <;> omega
  have HLE := Lib.hid (nfs_le og)
  have HN1 := Lib.hid hN1
  have hN0l : N0 ≤ 2000000 := by omega
  have hogl : og.length ≤ 2000000 := by omega
  clear hN0 hN1 hl hl2
  go_enter Tryd.func21, Tryd.ntmps21
  go_upto_region 1 with (fail)
  generalize (w.alloc (.cells (ldC ⟨ch, po, tt, de, ho, sy, ca, ma, og⟩ ⟨(qd, qdc), (qh, qhc), (qs, qsc), (qc, qcc), (qm, qmc), (qo, qoc)⟩) 54)) = w0 at *
  have c5 := HA0.cv 5 (.slice qd de.length qdc) rfl
  have c6 := HA0.cv 6 (.slice qh ho.length qhc) rfl
  have c7 := HA0.cv 7 (.slice qs sy.length qsc) rfl
  have c8 := HA0.cv 8 (.slice qc ca.length qcc) rfl
  have c9 := HA0.cv 9 (.slice qm ma.length qmc) rfl
  have c10 := HA0.cv 10 (.slice qo og.length qoc) rfl
  go_wp2_with fail
  clear s1 s2 s3 s4 s5 c5 c6 c7 c8 c9 c10
  go_loopw [3, 32] (fun n i wr => ∃ k : Nat, k ≤ og.length ∧ i = .int .i64 k ∧ n = .int .i64 ((N0 + nfs (og.take k) : Nat) : Int) ∧ Below w.heap.size w wr) (fun _ i _ => og.length - (intOf i).toNat)
  case atStart => exact ⟨0, by omega, rfl, rfl, B0⟩
  case round =>
    clear B0 HA0
    obtain ⟨k, hk, rfl, rfl, Bk⟩ := hrel
    have hk1 := HLE.out k
    by_cases hlt : k < og.length
    · have hIk := i6.below Bk
      obtain ⟨b, lo, rfl, hbl, hat⟩ := hIk.at hlt
      have q1 : (k : Int) < (og.length : Int) := by omega
      have q2 : decide ((k : Int) < (og.length : Int)) = true := decide_eq_true q1
      have q3 : (0 : Int) ≤ (k : Int) := by omega
      have hk2 := HLE.out (k + 1)
      have HK := hat k hlt
      have hdl : Hid (nfs (og.take k) + og[k].nf.size / 20 ≤ 2000000) := by
        show _ ≤ _
        rw [← nfs_take og k hlt]
        omega
      have HT : Hid (nfs (og.take (k + 1)) = nfs (og.take k) + og[k].nf.size / 20) := nfs_take og k hlt
      have hT2 := HT.out
      have HV4 := Blk.new wr 61 (ogC zOg)
      have B4 := Bk.alloc Bk.size (.cells (ogC zOg) 61)
      have hwr := Bk.size
      have t1 : Int.tdiv ((og[k].nf.size : Nat) : Int) 20 = ((og[k].nf.size / 20 : Nat) : Int) := rfl
      have u1 : ((og[k].nf.size : Nat) : Int) / 20 = ((og[k].nf.size / 20 : Nat) : Int) := rfl
      generalize og[k] = y at *
      generalize y.nf.size / 20 = d at *
      generalize nfs (og.take k) = m at *
      have hdl2 := hdl.out
      have v1 : IntKind.i64.wrap (d : Int) = (d : Int) := by rw [IntKind.wrap_i64] <;> omega
      have v2 : IntKind.i64.wrap (((N0 + m : Nat) : Int) + (d : Int)) = ((N0 + (m + d) : Nat) : Int) := by rw [IntKind.wrap_i64] <;> omega
      have v3 : IntKind.i64.wrap ((N0 : Int) + (m : Int) + (d : Int)) = ((N0 + (m + d) : Nat) : Int) := by rw [IntKind.wrap_i64] <;> omega
      clear hat hIk hT2
      go_upto_region 5 with (first
        | (refine load_cells (B := b) (k := lo + k * 3) 61 (ogC y) (by rfl) rfl rfl HK (by kernel_rfl) (by kernel_rfl) ?_)
        | (refine alloc_blk 61 (ogC zOg) (by rfl) rfl Tryd.ogZero ?_)
        | (refine store_blk (k := 0) 61 (.agg (ogC y)) (ogC y) (by rfl) rfl rfl rfl HV4 (by kernel_rfl) (show (3 : Nat) ≤ 3 from Nat.le_refl 3) (by rfl) (st_whole _ _ rfl) ?_; intro w5 HV5 b5 g5))
      have B5 := B4.trans (b5.mono hwr)
      have c2 := HV5.cv 2 (.string y.nf) rfl
      go_wp2
      go_roundw
      case rel => exact ⟨k + 1, by omega, by go_num, by rw [HT.out]; first | rfl | (push_cast; rfl) | simp [Int.add_assoc], B5⟩
      case measure => simp [intOf]; omega
    · obtain rfl : k = og.length := by omega
      have q2 : decide ((og.length : Int) < (og.length : Int)) = false := decide_eq_false (by omega)
      rw [List.take_length]
      generalize hNN : N0 + nfs og = NN at *
      have HNN := Lib.hid hNN
      clear hNN
      go_wp2
      go_ret
      exact ⟨by rw [HNN.out]; rfl, Bk⟩

end Go.Proofs.YticjmjoiggnblaaDoor
/- The reference's LldpRight, LldpWrite at every announcement. -/
namespace Go.Proofs.YticjmjoiggnblaaDoor
open Go.RowKit
attribute [local go_sem ↓] Go.wp_at_zero Go.wp_at_succ
set_option linter.unusedSimpArgs false
set_option linter.unusedVariables false
set_option maxRecDepth 100000

/-- Small enough for the reference. -/
def smLd (x : Ld) : Prop := x.de.length + x.ho.length + x.sy.length + x.ca.length + x.ma.length + x.og.length ≤ 700 ∧ x.ch.id.size ≤ 1048576 ∧ x.po.id.size ≤ 1048576 ∧ (∀ y ∈ x.ma, y.ai.size ≤ 1048576 ∧ y.oid.size ≤ 1048576) ∧ (∀ y ∈ x.og, y.nf.size ≤ 1048576)

theorem refLdRight_any (x : Ld) (q : LdA) (w : World) (h : LdIn w x q) (hr : rgLd x) (hs : smLd x) :
    Calls Tryd.prog 26 #[.agg (ldC x q)] w fun e w' => e = .returned (.bool (okLd x)) ∧ Below w.heap.size w w' := by
  have HA0 := Blk.new w 54 (ldC x q)
  have B0 : Below w.heap.size w (w.alloc (.cells (ldC x q) 54)) := (Below.refl _ _).alloc (Nat.le_refl _) _
  have HT := Lib.hid (tlvs_any x q _ (h.below B0) hr hs.1 hs.2.1 hs.2.2.1 hs.2.2.2.1 hs.2.2.2.2)
  rw [← okRef_eq]
  go_enter Tryd.func26, Tryd.ntmps26
  go_upto_region 1 with (fail)
  generalize (w.alloc (.cells (ldC x q) 54)) = w0 at *
  go_wp2_with (refine load_blk (k := 0) 54 (ldC x q) (by rfl) rfl rfl HA0 (by kernel_rfl) (by kernel_rfl) rfl ?_)
  refine HT.out.mono ?_
  rintro e w1 ⟨a, c, rfl, hT, b1⟩
  go_wp2
  go_ret
  exact ⟨rfl, B0.trans (b1.mono B0.size)⟩

set_option maxHeartbeats 1600000 in
theorem refLdWrite_any (x : Ld) (q : LdA) (w : World) (h : LdIn w x q) (hr : rgLd x) (hs : smLd x) :
    Calls Tryd.prog 22 #[.agg (ldC x q)] w fun e w' => e = .returned (.tuple #[.string ⟨(ldX x).toArray⟩, .int .i64 (if okLd x then 0 else 1)]) ∧ Below w.heap.size w w' := by
  have HA0 := Blk.new w 54 (ldC x q)
  have B0 : Below w.heap.size w (w.alloc (.cells (ldC x q) 54)) := (Below.refl _ _).alloc (Nat.le_refl _) _
  have HT := Lib.hid (tlvs_any x q _ (h.below B0) hr hs.1 hs.2.1 hs.2.2.1 hs.2.2.2.1 hs.2.2.2.2)
  rw [okRef_eq] at HT
  cases hok : okLd x with
  | false =>
    rw [hok] at HT
    have hX : ldX x = [] := by unfold ldX; rw [hok]; rfl
    rw [hX]
    clear hX hok
    go_enter Tryd.func22, Tryd.ntmps22
    go_upto_region 1 with (fail)
    generalize (w.alloc (.cells (ldC x q) 54)) = w0 at *
    go_wp2_with (refine load_blk (k := 0) 54 (ldC x q) (by rfl) rfl rfl HA0 (by kernel_rfl) (by kernel_rfl) rfl ?_)
    refine HT.out.mono ?_
    rintro e w1 ⟨a, c, rfl, hT, b1⟩
    go_wp2
    go_ret2
    exact ⟨rfl, B0.trans (b1.mono B0.size)⟩
  | true =>
    have HX : Hid (ldX x = tlWrite (ldTls x)) := by show _ = _; unfold ldX; rw [hok]; rfl
    rw [HX.out]
    have hle := ldTls_le x hok
    have HTW := Lib.hid (fun a c W (h : TlIn W a (ldTls x)) => refTlWrite_any a c (ldTls x) (ldTls x).length (Nat.le_refl _) (by rw [List.take_length]; exact ldTls_ok x hok) (by omega) (tlWrite (ldTls x)) 0 (-1) (Or.inl ⟨rfl, rfl, rfl, rfl⟩) W h)
    rw [hok, refTls_ok x hok] at HT
    generalize ldTls x = L at *
    clear HX hle hok
    go_enter Tryd.func22, Tryd.ntmps22
    go_upto_region 1 with (fail)
    generalize (w.alloc (.cells (ldC x q) 54)) = w0 at *
    go_wp2_with (refine load_blk (k := 0) 54 (ldC x q) (by rfl) rfl rfl HA0 (by kernel_rfl) (by kernel_rfl) rfl ?_)
    refine HT.out.mono ?_
    rintro e w1 ⟨a, c, rfl, hT, b1⟩
    have B1 := B0.trans (b1.mono B0.size)
    go_wp2_with fail
    refine (HTW.out a c _ hT).mono ?_
    rintro e w2 ⟨rfl, b2⟩
    have B2 := B1.trans (b2.mono B1.size)
    have HZ := Blk.new w2 27 (ftC 0 0)
    have B3 := B2.alloc B2.size (.cells (ftC 0 0) 27)
    have hw2 := B2.size
    go_wp2_with (first
      | (refine alloc_blk 27 (ftC 0 0) (by rfl) rfl (by kernel_rfl) ?_)
      | (refine store_blk (k := 0) 27 (.agg (ftC 0 (-1))) (ftC 0 (-1)) (by rfl) rfl rfl rfl HZ (by kernel_rfl) (by exact Nat.le_refl 2) rfl rfl (fun w7 H7 b7 g7 => ?_); have B7 := B3.trans (b7.mono hw2)))
    go_ret2
    exact ⟨rfl, B7⟩

end Go.Proofs.YticjmjoiggnblaaDoor
/- The law LldpWrites, where all data together are few. -/
namespace Go.Proofs.YticjmjoiggnblaaDoor
open Go.RowKit
attribute [local go_sem ↓] Go.wp_at_zero Go.wp_at_succ
set_option linter.unusedSimpArgs false
set_option linter.unusedVariables false
set_option maxRecDepth 100000

theorem ldE_bare (b : Bool) : Bare (ldE b) (if b then 0 else 1) := by
  cases b
  · exact Bare.errno 1
  · exact Bare.none
set_option maxHeartbeats 3200000 in
theorem ldw_walk (x : Ld) (q : LdA) (w : World) (h : LdIn w x q) (hr : rgLd x) (hl : lensL x ≤ 1048576) (hn : nfs x.og ≤ 1048576)
    (z1 : x.ch.id.size ≤ 1048576) (z2 : x.po.id.size ≤ 1048576) (z3 : ∀ y ∈ x.ma, y.ai.size ≤ 1048576 ∧ y.oid.size ≤ 1048576) (z4 : ∀ y ∈ x.og, y.nf.size ≤ 1048576) (hE : HasErr w) :
    Calls Tryd.prog 7 #[.agg (ldC x q)] w fun e w' => e = .returned (.bool true) ∧ Below w.heap.size w w' := by
  have HA0 := Blk.new w 54 (ldC x q)
  have B0 : Below w.heap.size w (w.alloc (.cells (ldC x q) 54)) := (Below.refl _ _).alloc (Nat.le_refl _) _
  have HBG := Lib.hid (fun W (h : LdIn W x q) => big_any x q W h (by omega) (by omega))
  by_cases hN : (700 : Int) < ((lensL x + nfs x.og : Nat) : Int)
  · rw [decide_eq_true hN] at HBG
    clear hN
    go_enter Tryd.func7, Tryd.ntmps7
    go_upto_region 1 with (fail)
    generalize (w.alloc (.cells (ldC x q) 54)) = w0 at *
    go_wp2_with (refine load_blk (k := 0) 54 (ldC x q) (by rfl) rfl rfl HA0 (by kernel_rfl) (by kernel_rfl) rfl ?_)
    refine (HBG.out _ (h.below B0)).mono ?_
    rintro e w1 ⟨rfl, b1⟩
    go_wp2
    go_ret
    exact ⟨rfl, B0.trans (b1.mono B0.size)⟩
  · have hsm : smLd x := ⟨by unfold lensL at hN; omega, z1, z2, z3, z4⟩
    rw [decide_eq_false hN] at HBG
    have HRW := Lib.hid (fun W (h : LdIn W x q) => refLdWrite_any x q W h hr hsm)
    have HRR := Lib.hid (fun W (h : LdIn W x q) => refLdRight_any x q W h hr hsm)
    have HW := Lib.hid (fun W (h : LdIn W x q) => ldWrite_any x q W h hr)
    have HR := Lib.hid (fun W (h : LdIn W x q) => ldRight_any x q W h hr)
    have HBA := Lib.hid (ldE_bare (okLd x))
    generalize ldE (okLd x) = er at *
    generalize (if okLd x = true then (0 : Int) else 1) = en at *
    generalize okLd x = okb at *
    generalize ldX x = X at *
    have hL : (X == X) = true := by simp
    have hbb : (okb == okb) = true := beq_self_eq_true okb
    clear hN hl hn z1 z2 z3 z4 hsm
    go_enter Tryd.func7, Tryd.ntmps7
    go_upto_region 1 with (fail)
    generalize (w.alloc (.cells (ldC x q) 54)) = w0 at *
    go_wp2_with (refine load_blk (k := 0) 54 (ldC x q) (by rfl) rfl rfl HA0 (by kernel_rfl) (by kernel_rfl) rfl ?_)
    refine (HBG.out _ (h.below B0)).mono ?_
    rintro e w1 ⟨rfl, b1⟩
    have HA1 := HA0.kept b1
    have B1 := B0.trans (b1.mono B0.size)
    clear HA0 B0 b1 HBG
    go_wp2_with (refine load_blk (k := 0) 54 (ldC x q) (by rfl) rfl rfl HA1 (by kernel_rfl) (by kernel_rfl) rfl ?_)
    refine (HRW.out _ (h.below B1)).mono ?_
    rintro e w2 ⟨rfl, b2⟩
    have HA2 := HA1.kept b2
    have B2 := B1.trans (b2.mono B1.size)
    clear HA1 B1 b2 HRW
    go_wp2_with (refine load_blk (k := 0) 54 (ldC x q) (by rfl) rfl rfl HA2 (by kernel_rfl) (by kernel_rfl) rfl ?_)
    refine (HW.out _ (h.below B2)).mono ?_
    rintro e w3 ⟨rfl, b3⟩
    have HA3 := HA2.kept b3
    have B3 := B2.trans (b3.mono B2.size)
    have hE3 := hE.below B3
    clear HA2 B2 b3 HW
    go_upto_region 5 with (fail)
    refine wp_region_noPanic ?_
    refine wp_region_held_drew (S := (fun w' => Blk w' w.heap.size 54 (ldC x q))) (by kernel_rfl) ?_ (fun hHeld => ?_)
    · exact HA3.drew
    refine wpAnyH_take (i := 0) (v := ?_) rfl (by kernel_rfl) (by kernel_rfl) (by kernel_rfl) (fun _ _ _ h => h) (Or.inl ⟨by rfl, ?_⟩) (by assumption) ?_
    rotate_left
    · (intro w hSw; (try dsimp only at hSw); go_simp; (try with_reducible rfl))
    (try simp only [Act.put, List.getElem_toArray, List.getElem_cons_zero, List.getElem_cons_succ, List.setIfInBounds_toArray, List.set_cons_zero, List.set_cons_succ])
    refine wpAnyH_take (i := 1) (v := ?_) rfl (by kernel_rfl) (by kernel_rfl) (by kernel_rfl) (fun _ _ _ h => h) (Or.inl ⟨by rfl, ?_⟩) (by assumption) ?_
    rotate_left
    · (intro w hSw; (try dsimp only at hSw); go_simp; (try with_reducible rfl))
    (try simp only [Act.put, List.getElem_toArray, List.getElem_cons_zero, List.getElem_cons_succ, List.setIfInBounds_toArray, List.set_cons_zero, List.set_cons_succ])
    refine wpAnyH_ready (rs := [2]) (by kernel_rfl) (by simp) ?_
    refine AllReadyH.cons rfl (fun K hK => ?_) AllReadyH.nil
    simp only [List.getElem_toArray, List.getElem_cons_zero, List.getElem_cons_succ]
    go_simp
    go_at_call 24; (refine (HBA.out _ (hE.below B3.drew)).mono ?_); rintro e w4 ⟨rfl, b4⟩; have HA4 := HA3.drew.kept b4; have B4 := B3.drew.trans (b4.mono B3.drew.size)
    refine hK.out _ _ ?_ (fun hHeld => ?_)
    · exact HA4
    clear hK K
    (try simp only [Act.put, List.getElem_toArray, List.getElem_cons_zero, List.getElem_cons_succ, List.setIfInBounds_toArray, List.set_cons_zero, List.set_cons_succ])
    refine wpAnyH_take (i := 3) (v := ?_) rfl (by kernel_rfl) (by kernel_rfl) (by kernel_rfl) (fun _ _ _ h => h) (Or.inl ⟨by rfl, ?_⟩) (by assumption) ?_
    rotate_left
    · (intro w hSw; (try dsimp only at hSw); go_simp; (try with_reducible rfl))
    (try simp only [Act.put, List.getElem_toArray, List.getElem_cons_zero, List.getElem_cons_succ, List.setIfInBounds_toArray, List.set_cons_zero, List.set_cons_succ])
    refine wpAnyH_take (i := 4) (v := ?_) rfl (by kernel_rfl) (by kernel_rfl) (by kernel_rfl) (fun _ _ _ h => h) (Or.inl ⟨by rfl, ?_⟩) (by assumption) ?_
    rotate_left
    · (intro w hSw; (try dsimp only at hSw); go_simp; (try with_reducible rfl))
    (try simp only [Act.put, List.getElem_toArray, List.getElem_cons_zero, List.getElem_cons_succ, List.setIfInBounds_toArray, List.set_cons_zero, List.set_cons_succ])
    refine wpAnyH_take (i := 5) (v := ?_) rfl (by kernel_rfl) (by kernel_rfl) (by kernel_rfl) (fun _ _ _ h => h) (Or.inl ⟨by rfl, ?_⟩) (by assumption) ?_
    rotate_left
    · (intro w hSw; (try dsimp only at hSw); go_simp; (try with_reducible rfl))
    (try simp only [Act.put, List.getElem_toArray, List.getElem_cons_zero, List.getElem_cons_succ, List.setIfInBounds_toArray, List.set_cons_zero, List.set_cons_succ])
    refine wpAnyH_take (i := 6) (v := ?_) rfl (by kernel_rfl) (by kernel_rfl) (by kernel_rfl) (fun _ _ _ h => h) (Or.inl ⟨by rfl, ?_⟩) (by assumption) ?_
    rotate_left
    · (intro w hSw; (try dsimp only at hSw); go_simp; (try with_reducible rfl))
    (try simp only [Act.put, List.getElem_toArray, List.getElem_cons_zero, List.getElem_cons_succ, List.setIfInBounds_toArray, List.set_cons_zero, List.set_cons_succ])
    refine wpAnyH_take (i := 7) (v := ?_) rfl (by kernel_rfl) (by kernel_rfl) (by kernel_rfl) (fun _ _ _ h => h) (Or.inl ⟨by rfl, ?_⟩) (by assumption) ?_
    rotate_left
    · (intro w hSw; (try dsimp only at hSw); go_simp; (try with_reducible rfl))
    (try simp only [Act.put, List.getElem_toArray, List.getElem_cons_zero, List.getElem_cons_succ, List.setIfInBounds_toArray, List.set_cons_zero, List.set_cons_succ])
    refine wpAnyH_take (i := 8) (v := ?_) rfl (by kernel_rfl) (by kernel_rfl) (by kernel_rfl) (fun _ _ _ h => h) (Or.inl ⟨by rfl, ?_⟩) (by assumption) ?_
    rotate_left
    · (intro w hSw; (try dsimp only at hSw); go_simp; (try with_reducible rfl))
    (try simp only [Act.put, List.getElem_toArray, List.getElem_cons_zero, List.getElem_cons_succ, List.setIfInBounds_toArray, List.set_cons_zero, List.set_cons_succ])
    refine wpAnyH_take (i := 9) (v := .agg (ldC x q)) rfl (by kernel_rfl) (by kernel_rfl) (by kernel_rfl) (fun _ _ _ h => h) (Or.inl ⟨by rfl, fun w hSw => exec_load_blk (k := 0) 54 (ldC x q) rfl rfl hSw (by kernel_rfl) (by kernel_rfl) rfl⟩) (by assumption) ?_
    (try simp only [Act.put, List.getElem_toArray, List.getElem_cons_zero, List.getElem_cons_succ, List.setIfInBounds_toArray, List.set_cons_zero, List.set_cons_succ])
    refine wpAnyH_take (i := 11) (v := .agg (ldC x q)) rfl (by kernel_rfl) (by kernel_rfl) (by kernel_rfl) (fun _ _ _ h => h) (Or.inl ⟨by rfl, fun w hSw => exec_load_blk (k := 0) 54 (ldC x q) rfl rfl hSw (by kernel_rfl) (by kernel_rfl) rfl⟩) (by assumption) ?_
    (try simp only [Act.put, List.getElem_toArray, List.getElem_cons_zero, List.getElem_cons_succ, List.setIfInBounds_toArray, List.set_cons_zero, List.set_cons_succ])
    refine wpAnyH_ready (rs := [10]) (by kernel_rfl) (by simp) ?_
    refine AllReadyH.cons rfl (fun K hK => ?_) AllReadyH.nil
    simp only [List.getElem_toArray, List.getElem_cons_zero, List.getElem_cons_succ]
    go_simp
    go_at_call 25; (with_reducible refine (HR.out _ (h.below B4)).mono ?_); rintro e w5 ⟨rfl, b5⟩; have HA5 := HA4.kept b5; have B5 := B4.trans (b5.mono B4.size)
    refine hK.out _ _ ?_ (fun hHeld => ?_)
    · exact HA5
    clear hK K
    (try simp only [Act.put, List.getElem_toArray, List.getElem_cons_zero, List.getElem_cons_succ, List.setIfInBounds_toArray, List.set_cons_zero, List.set_cons_succ])
    refine wpAnyH_ready (rs := [12]) (by kernel_rfl) (by simp) ?_
    refine AllReadyH.cons rfl (fun K hK => ?_) AllReadyH.nil
    simp only [List.getElem_toArray, List.getElem_cons_zero, List.getElem_cons_succ]
    go_simp
    go_at_call 26; (with_reducible refine (HRR.out _ (h.below B5)).mono ?_); rintro e w6 ⟨rfl, b6⟩; have HA6 := HA5.kept b6; have B6 := B5.trans (b6.mono B5.size)
    refine hK.out _ _ ?_ (fun hHeld => ?_)
    · exact HA6
    clear hK K
    (try simp only [Act.put, List.getElem_toArray, List.getElem_cons_zero, List.getElem_cons_succ, List.setIfInBounds_toArray, List.set_cons_zero, List.set_cons_succ])
    refine wpAnyH_take (i := 13) (v := ?_) rfl (by kernel_rfl) (by kernel_rfl) (by kernel_rfl) (fun _ _ _ h => h) (Or.inl ⟨by rfl, ?_⟩) (by assumption) ?_
    rotate_left
    · (intro w hSw; (try dsimp only at hSw); go_simp; (try with_reducible rfl))
    (try simp only [Act.put, List.getElem_toArray, List.getElem_cons_zero, List.getElem_cons_succ, List.setIfInBounds_toArray, List.set_cons_zero, List.set_cons_succ])
    refine wpAnyH_take (i := 14) (v := ?_) rfl (by kernel_rfl) (by kernel_rfl) (by kernel_rfl) (fun _ _ _ h => h) (Or.inl ⟨by rfl, ?_⟩) (by assumption) ?_
    rotate_left
    · (intro w hSw; (try dsimp only at hSw); go_simp; (try with_reducible rfl))
    (try simp only [Act.put, List.getElem_toArray, List.getElem_cons_zero, List.getElem_cons_succ, List.setIfInBounds_toArray, List.set_cons_zero, List.set_cons_succ])
    refine wpAnyH_take (i := 15) (v := ?_) rfl (by kernel_rfl) (by kernel_rfl) (by kernel_rfl) (fun _ _ _ h => h) (Or.inl ⟨by rfl, ?_⟩) (by assumption) ?_
    rotate_left
    · (intro w hSw; (try dsimp only at hSw); go_simp; (try with_reducible rfl))
    (try simp only [Act.put, List.getElem_toArray, List.getElem_cons_zero, List.getElem_cons_succ, List.setIfInBounds_toArray, List.set_cons_zero, List.set_cons_succ])
    refine wpAnyH_done (by kernel_rfl) ?_ _
    refine NoPanic.normal ?_
    go_wp2
    go_ret
    exact ⟨rfl, B6⟩

end Go.Proofs.YticjmjoiggnblaaDoor

/- The card of switchyardlaw.LldpWrites: for every argument it returns true, and the arguments read as they did; what its row lists of package-level variables is tied to the program's text. -/
namespace Go.Proofs.YticjmjoiggnblaaDoor.lldpWritesUpto
open Go.ChangeShapes Go.WideShapes Go.ChangeAt Go.RowKit
set_option linter.unusedVariables false

def argL : Value := .agg #[.int .i64 0, .string ⟨#[]⟩, .int .i64 0, .string ⟨#[]⟩, .int .i64 0, .slice none 0 0, .slice none 0 0, .slice none 0 0, .slice none 0 0, .slice none 0 0, .slice none 0 0]
theorem sum_mem {α : Type} (f : α → Nat) (l : List α) {y : α} (hy : y ∈ l) : f y ≤ (l.map f).sum := by
  induction l with
  | nil => cases hy
  | cons z r ih =>
    simp only [List.map_cons, List.sum_cons]
    rcases List.mem_cons.1 hy with rfl | h
    · omega
    · have := ih h
      omega
theorem nfs_sum (l : List Og) : nfs l ≤ (l.map fun x => x.nf.size).sum := by
  unfold nfs
  induction l with
  | nil => simp
  | cons z r ih =>
    simp only [List.map_cons, List.sum_cons]
    have : z.nf.size / 20 ≤ z.nf.size := Nat.div_le_self _ _
    omega
theorem small_of {x : Ld} (h : bulkLd x ≤ 1048576) : lensL x ≤ 1048576 ∧ nfs x.og ≤ 1048576 ∧ x.ch.id.size ≤ 1048576 ∧ x.po.id.size ≤ 1048576 ∧ (∀ y ∈ x.ma, y.ai.size ≤ 1048576 ∧ y.oid.size ≤ 1048576) ∧ (∀ y ∈ x.og, y.nf.size ≤ 1048576) := by
  unfold bulkLd at h
  have h1 := nfs_sum x.og
  refine ⟨by unfold lensL; omega, by omega, by omega, by omega, fun y hy => ?_, fun y hy => ?_⟩
  · have := sum_mem (fun x : Mg => x.ai.size + x.oid.size) x.ma hy
    (try dsimp only at this)
    omega
  · have := sum_mem (fun x : Og => x.nf.size) x.og hy
    (try dsimp only at this)
    omega
theorem laidOut_ : laidOutB Tryd.prog = true := by kernel_rfl

theorem laid_met (os : Os) : laidMetH Tryd.prog Rows.lldpWritesUptoRow.laid ((laidWorld os).forCall (fun _ _ => 0) ⟨#[], #[argL], []⟩).memory :=
  laidMetH_of_parts3 (fuel := 8) (laidMet_of_run' 8 (by kernel_rfl) (by kernel_rfl)) (by kernel_rfl) (by kernel_rfl)
theorem reads (os : Os) {H : Type} (enc : TypeId × Value → H) : ∃ places, DataW.whole enc Tryd.prog ((laidWorld os).forCall (fun _ _ => 0) ⟨#[], #[argL], []⟩).memory Tryd.f7.params.toList Rows.lldpWritesSpec.vars false #[argL].toList 8 = some ([.agg [.agg [.lit (.int .i64 0), .lit (.string [])], .agg [.lit (.int .i64 0), .lit (.string [])], .lit (.int .i64 0), .nil, .nil, .nil, .nil, .nil, .nil]], [], places) :=
  ⟨[], by kernel_rfl⟩

set_option maxRecDepth 100000 in
theorem lifted (os : Os) (started : os.Started) (H : Type) (enc : TypeId × Value → H) (F : Stop.Interp) :
    ReturnsInHanded {} Tryd.checked os 7 .any ((Rows.OpenSpec.upto Rows.lldpWritesSpec).preRow enc Tryd.prog Tryd.f7 Rows.lldpWritesUptoRow.domain false Rows.lldpWritesUptoRow.laid) (((Rows.OpenSpec.upto Rows.lldpWritesSpec).at F).post enc Tryd.prog Tryd.f7 false true false false) := by
  obtain ⟨places, hx⟩ := reads os enc
  refine returnsInHanded_of_row (C := Tryd.checked) (s := Rows.OpenSpec.upto Rows.lldpWritesSpec) own started (by kernel_rfl) Tryd.func7
    (witness_row_at (enc := enc) (C := Tryd.checked) false (laidWorld os) #[argL] rfl (by kernel_rfl) (by kernel_rfl) (by kernel_rfl)
      (OpenSpec.preRow_of_cond 8 hx (by kernel_rfl) (fun k hk => by cases hk; kernel_rfl) (by kernel_rfl) (laid_met os))) ?_
  intro W base args ds gs before hval0 hW _ hcond hSz hL hsh _
  have hval : ∀ (j : Nat) t v, Tryd.f7.params[j]? = some t → args[j]? = some v → Value.okWide Tryd.prog W .any base t v := hval0
  have hE := hasErr_of_laid hL (by simp [Rows.lldpWritesUptoRow])
  have hW' := hW
  obtain ⟨p, q, hA0, hV, rfl, hfz, hnd⟩ := hW
  have hA : DataW.TrodAll enc Tryd.prog W 0 (fun _ => true) true Tryd.f7.params.toList args.toList ds p := hA0
  rw [Tryd.params7] at hA hval
  obtain ⟨v0, vs0, d0, ds0, p0, q0, hargs, rfl, rfl, h0, r0⟩ := trodAll_cons hA
  obtain ⟨rfl, rfl, rfl⟩ := trodAll_nil r0
  obtain rfl : args = #[v0] := by cases args; simp_all
  obtain ⟨rfl, rfl⟩ := trodVars_none hV
  clear hA0
  simp only [List.append_nil] at hW'
  have hlt := hW'.lt
  have hk := hcond _ rfl
  obtain ⟨x0, q0, ⟨hr0, hi0, -, -, -, hbk⟩, hv0⟩ := open_ld (hval 0 54 v0 rfl rfl) h0
  have hb0 : bulkLd x0 ≤ 1048576 := by
    have h1 : Rows.uptoBulkAll ([d0] ++ []) ≤ 1048576 := of_decide_eq_true hk
    simp only [List.append_nil, Rows.uptoBulkAll] at h1
    omega
  obtain ⟨s1, s2, s3, s4, s5, s6⟩ := small_of hb0
  subst hv0
  refine (ldw_walk x0 q0 W hi0 hr0 s1 s2 s3 s4 s5 s6 hE).mono fun e W' ⟨he, hb⟩ => ?_
  subst he
  exact ⟨_, rfl, met_below hW' (fun _ _ _ => (trodAll_cons_mk (shut_bool Tryd.underlying4 _) trodAll_mk0)) (fun sp hsp => by have r := (trodAll_cons_mk (WideElems.Trod_stays laidOut_ (by kernel_rfl) (of_decide_eq_true (by kernel_rfl)) h0 (fun x hx => hb.same (hlt x (by simp [hx]))) (fun x hx => hsp x (by simp [hx]))) trodAll_mk0); simp only [List.append_nil] at r; exact r) (fun _ => rfl) hb
    (ok_one (by kernel_rfl) rfl (okWide_bool_mk Tryd.underlying4 _))⟩

theorem said : Rows.LldpWritesUptoSaid :=
  OpenClaim.holds_of_cond 7 Tryd.f7 rfl rfl rfl rfl rfl rfl rfl ⟨rfl, rfl, rfl, rfl, rfl⟩ rfl rfl rfl rfl rfl (by kernel_rfl) Tryd.func7 (by kernel_rfl)
    (of_decide_eq_true (by kernel_rfl)) (by unfold Func.isWrapper; first | (rw [if_pos (by decide +kernel)]; kernel_rfl) | (rw [if_neg (by decide +kernel)]; exact ⟨rfl, rfl⟩))
    (fun os started H enc _ F => by rw [OpenClaim.pre_eq_preRow]; exact lifted os started H enc F)

theorem plain (f : FuncId) (fn : Func) (hf : Tryd.pinned.checked.prog.funcNamed "switchyard/switchyardlaw.LldpWrites" = some f) (hfn : Tryd.pinned.checked.prog.funcs[f]? = some fn) :
    true = Tryd.pinned.checked.prog.looks [] ∧ ∀ (j : Nat) t, fn.params[j]? = some t → Tryd.pinned.checked.prog.wantsStandIn t = false := by
  obtain rfl : f = 7 := Option.some.inj ((show Tryd.prog.funcNamed "switchyard/switchyardlaw.LldpWrites" = some 7 by kernel_rfl).symm.trans hf) |>.symm
  obtain rfl : fn = Tryd.f7 := (Option.some.inj (Tryd.func7.symm.trans hfn)).symm
  refine ⟨by kernel_rfl, fun j t ht => ?_⟩
  rw [Tryd.params7] at ht
  have hm : t ∈ #[54] := Array.mem_of_getElem? ht
  simp only [List.mem_toArray, List.mem_cons, List.not_mem_nil, or_false] at hm
  rcases hm with rfl
  · exact (show Tryd.prog.wantsStandIn 54 = false by kernel_rfl)

theorem card : Rows.LldpWritesUptoCardSaid :=
  Claim7.holds_tied_plain_at .later [] _ _ _ _ said (fun _ h => by cases h) (by kernel_rfl) (fun _ h => by cases h) lldpWritesUpto_row_tie rfl ⟨rfl, rfl⟩ (by kernel_rfl) rfl plain (by kernel_rfl)
#print axioms card

end Go.Proofs.YticjmjoiggnblaaDoor.lldpWritesUpto

