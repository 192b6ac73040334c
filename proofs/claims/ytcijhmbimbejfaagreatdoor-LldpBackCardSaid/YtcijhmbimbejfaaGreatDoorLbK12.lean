/- The card of switchyardkeep.LldpBack: for every argument it returns true, and the arguments read as they did; what its row lists of package-level variables is tied to the program's text. -/
import Derived.Test.YtcijhmbimbejfaaGreatDoorLbK11
import Derived.Test.YtcijhmbimbejfaaGreatDoorLbK4
import Derived.Below
import Derived.ChangeSame
import Derived.Test.YtcijhmbimbejfaaGreatDoorRows
import Derived.Test.YtcijhmbimbejfaaGreatDoorCards
import Derived.Test.YtcijhmbimbejfaaGreatDoorTie
import Derived.ProofKit
import Derived.OpenShut
import Derived.LaidHandle
import Derived.LaidMore
import Derived.LaidSub
import Derived.Deep.DeepHandedRow
import Derived.Lib.LaidTab
import Derived.WideKeyArgs
import Derived.WideShapes
import Derived.SizedLaws
import Derived.Lib.SmallJoins
import Derived.Deep.SlicePairs
namespace Go.Proofs.YtcijhmbimbejfaaGreatDoor
open Go.RowKit Go.WideShapes Go.ChangeShapes

/-- The specification is met: one result, which reads as told; the arguments and the named variables read as they did; old memory is as it was. -/
theorem met_below {P : Program} {H : Type} {enc : TypeId × Value → H} {f : Func} {s : ChangeSpec} {apart fresh handsOn again : Bool} {W W' : World} {args : Array Value} {v : Value} {ds gs : List (DataW H)} {places : List MemPlace}
    (whole : DataW.Whole enc P f.params.toList s.vars apart W args.toList ds gs places)
    (results : ∀ (b : Nat) (sp : Nat → Bool) (hd : Bool), DataW.TrodAll enc P W' b sp hd f.resultTypes.toList (v.resultList f.resultTypes.size) (s.fn H (ds ++ gs)).results [])
    (arguments : ∀ sp : Nat → Bool, (∀ p ∈ places, sp p.block = true) → DataW.TrodAll enc P W' 0 sp true f.params.toList args.toList (s.fn H (ds ++ gs)).args places)
    (variables : ∀ sp : Nat → Bool, DataW.TrodVars enc P W' sp s.vars (s.fn H (ds ++ gs)).vars [])
    (below : Below W.heap.size W W')
    (formed : ∀ (j : Nat) (t : TypeId) (r : Value), f.resultTypes[j]? = some t → (v.resultList f.resultTypes.size)[j]? = some r → Value.okWide P W' .any 0 t r) :
    s.post enc P f apart fresh handsOn again W args v W' := by
  have old : ∀ p ∈ places, p.block < W.heap.size := fun p hp => whole.lt p hp
  have oldB : ∀ p ∈ places, (fun b => decide (b < W.heap.size)) p.block = true := fun p hp => decide_eq_true (old p hp)
  obtain ⟨_, _, _, _, _, unfrozen, once⟩ := id whole
  refine ⟨ds, gs, places, [], places, [], whole, results _ _ _, arguments _ oldB, variables _, below.frame _, fun _ => ⟨formed, _, _, ([] ++ places) ++ [], ⟨[] ++ places, [], trodAll_append (arguments _ fun _ _ => rfl) (results _ _ _), variables _, rfl, fun b off hp => ?_, fun ha => by simpa using once ha⟩, fun p hp _ => by simpa using hp⟩⟩
  have hin : MemPlace.cell b off ∈ places := by simpa using hp
  exact (below.frozen (p := ⟨b, off, none⟩) (old _ hin)).trans (unfrozen b off hin)

end Go.Proofs.YtcijhmbimbejfaaGreatDoor

namespace Go.Proofs.YtcijhmbimbejfaaGreatDoor
open Go.ChangeShapes Go.WideShapes Go.ChangeAt Go.RowKit

theorem own : ownKnob Tryz.prog.godebug = none := by kernel_rfl
theorem Tryz.gErr : Tryz.prog.globalNamed "errors.errorType" = some 0 := by kernel_rfl
theorem Tryz.rtRow : (Tryz.prog.cutTypes.find? (·.1 == "internal/reflectlite.rtype")).map (·.2) = some 207 := by kernel_rfl
theorem Tryz.errRow : ((List.range 270).filter fun t => Tryz.prog.rowNamed t [101, 114, 114, 111, 114]) = [36] := by kernel_rfl
theorem Tryz.typesSize : Tryz.prog.types.size = 270 := by kernel_rfl

/-- A list that holds errors.errorType with the handle of the type error says what errors.As asks. -/
theorem hasErr_of_laid {W : World} {l : List (String × DataW Unit)} (h : laidMetH Tryz.prog l W) (hm : ("errors.errorType", Rows.laid_errors_errorType) ∈ l) : HasErr W := by
  obtain ⟨_, h2⟩ := laidMetH_iff.1 h
  obtain ⟨name, u, ty, e1, e2, e3, e4, e5⟩ := h2 _ (List.mem_filter.2 ⟨hm, by kernel_rfl⟩)
  have en : name = [101, 114, 114, 111, 114] := (Option.some.inj e1).symm
  subst en
  obtain rfl := Option.some.inj (Tryz.rtRow.symm.trans e2)
  have hin : ty ∈ (List.range 270).filter fun t => Tryz.prog.rowNamed t [101, 114, 114, 111, 114] := List.mem_filter.2 ⟨List.mem_range.2 (by rw [← Tryz.typesSize]; exact e3), e4⟩
  rw [Tryz.errRow] at hin
  obtain rfl := List.mem_singleton.1 hin
  have hh : typeHandle Tryz.prog 36 = .pointer (some ⟨4, 36, none⟩) := by kernel_rfl
  rw [hh] at e5
  have hc := World.var?_cell Tryz.gErr e5 0
  unfold HasErr
  simpa using hc

/-- The cells that a flat datum of integers lays. -/
def cellsOfDatum : DataW Unit → Array Value
  | .agg l => (l.map fun d => match d with | .lit (.int k n) => Value.int k n | _ => .int .u8 0).toArray
  | _ => #[]

/-- The door's own heap, and Go's own table beside it. -/
noncomputable def laidWorld (os : Os) : World :=
  let w0 := World.doorLaid Tryz.prog 400 os
  { w0 with heap := w0.heap.modify 1 fun | .cells _ t fr => .cells (cellsOfDatum Go.Pinned.utf8First) t fr | o => o }

end Go.Proofs.YtcijhmbimbejfaaGreatDoor

namespace Go.Proofs.YtcijhmbimbejfaaGreatDoor
open Go.ChangeShapes Go.WideShapes Go.ChangeAt Go.RowKit Go.Deep Go.Joins
set_option linter.unusedVariables false

theorem listW2 {α : Type} (l : List α) (h : l.length = 2) : ∃ c0 c1, l = [c0, c1] := by
  match l, h with
  | [c0, c1], _ => exact ⟨c0, c1, rfl⟩
theorem listW3 {α : Type} (l : List α) (h : l.length = 3) : ∃ c0 c1 c2, l = [c0, c1, c2] := by
  match l, h with
  | [c0, c1, c2], _ => exact ⟨c0, c1, c2, rfl⟩
theorem listW4 {α : Type} (l : List α) (h : l.length = 4) : ∃ c0 c1 c2 c3, l = [c0, c1, c2, c3] := by
  match l, h with
  | [c0, c1, c2, c3], _ => exact ⟨c0, c1, c2, c3, rfl⟩
theorem listW5 {α : Type} (l : List α) (h : l.length = 5) : ∃ c0 c1 c2 c3 c4, l = [c0, c1, c2, c3, c4] := by
  match l, h with
  | [c0, c1, c2, c3, c4], _ => exact ⟨c0, c1, c2, c3, c4, rfl⟩
theorem listW9 {α : Type} (l : List α) (h : l.length = 9) : ∃ c0 c1 c2 c3 c4 c5 c6 c7 c8, l = [c0, c1, c2, c3, c4, c5, c6, c7, c8] := by
  match l, h with
  | [c0, c1, c2, c3, c4, c5, c6, c7, c8], _ => exact ⟨c0, c1, c2, c3, c4, c5, c6, c7, c8, rfl⟩
theorem listW11 {α : Type} (l : List α) (h : l.length = 11) : ∃ c0 c1 c2 c3 c4 c5 c6 c7 c8 c9 c10, l = [c0, c1, c2, c3, c4, c5, c6, c7, c8, c9, c10] := by
  match l, h with
  | [c0, c1, c2, c3, c4, c5, c6, c7, c8, c9, c10], _ => exact ⟨c0, c1, c2, c3, c4, c5, c6, c7, c8, c9, c10, rfl⟩
set_option maxRecDepth 100000 in
theorem nm_trod {H : Type} {enc : TypeId × Value → H} {W : World} {base fuel : Nat} {sp : Nat → Bool} {held : Bool} {c0 c1 : Value} {y : DataW H × List MemPlace}
    (h : DataW.trod enc Tryz.prog W base sp held fuel 23 [c0, c1] = some y) : ∃ x : Nm, rgNm x ∧ [c0, c1] = (nmC x).toList := by
  have _h2 : Tryz.prog.cellsOf 3 = 1 := by kernel_rfl
  have _h3 : Tryz.prog.cellsOf 9 = 1 := by kernel_rfl
  obtain ⟨xs, n, _, hx, _, hlen, hg⟩ := DataW.trod_struct Tryz.underlying23 h
  obtain ⟨y0, y1, rfl⟩ := listW2 xs hlen
  have g0 := hg 0 _ rfl
  have g1 := hg 1 _ rfl
  obtain ⟨x0, e0, _, wf0⟩ := DataW.trod_int Tryz.underlying3 g0
  obtain rfl : c0 = .int .i64 x0 := (List.cons.inj (show [c0] = [.int .i64 x0] from e0)).1
  obtain ⟨x1, e1, q1, sb1⟩ := DataW.trod_string Tryz.underlying9 g1
  obtain rfl : c1 = .string x1 := (List.cons.inj (show [c1] = [.string x1] from e1)).1
  exact ⟨⟨x0, x1⟩, ⟨bounds_i64 wf0, sb1⟩, rfl⟩

set_option maxRecDepth 100000 in
theorem cp_trod {H : Type} {enc : TypeId × Value → H} {W : World} {base fuel : Nat} {sp : Nat → Bool} {held : Bool} {c0 c1 : Value} {y : DataW H × List MemPlace}
    (h : DataW.trod enc Tryz.prog W base sp held fuel 91 [c0, c1] = some y) : ∃ x : Cp, rgCp x ∧ [c0, c1] = (cpC x).toList := by
  have _h2 : Tryz.prog.cellsOf 3 = 1 := by kernel_rfl
  have _h3 : Tryz.prog.cellsOf 9 = 1 := by kernel_rfl
  obtain ⟨xs, n, _, hx, _, hlen, hg⟩ := DataW.trod_struct Tryz.underlying91 h
  obtain ⟨y0, y1, rfl⟩ := listW2 xs hlen
  have g0 := hg 0 _ rfl
  have g1 := hg 1 _ rfl
  obtain ⟨x0, e0, _, wf0⟩ := DataW.trod_int Tryz.underlying3 g0
  obtain rfl : c0 = .int .i64 x0 := (List.cons.inj (show [c0] = [.int .i64 x0] from e0)).1
  obtain ⟨x1, e1, _, wf1⟩ := DataW.trod_int Tryz.underlying3 g1
  obtain rfl : c1 = .int .i64 x1 := (List.cons.inj (show [c1] = [.int .i64 x1] from e1)).1
  exact ⟨⟨x0, x1⟩, ⟨bounds_i64 wf0, bounds_i64 wf1⟩, rfl⟩

/- A cell that reads as a list of capabilities. -/
set_option maxRecDepth 100000 in
theorem cps_cell {H : Type} {enc : TypeId × Value → H} {W : World} {fuel : Nat} {z0 : Value} {y : DataW H × List MemPlace}
    (hf : DataW.trod enc Tryz.prog W 0 (fun _ => true) true fuel 25 [z0] = some y) : ∃ (a : Option Addr) (c : Nat) (l : List Cp), z0 = .slice a l.length c ∧ l.length ≤ c ∧ c ≤ maxLen ∧ CpIn W a l ∧ (∀ x ∈ l, rgCp x) ∧ (l = [] ∨ ∃ es sp, y.1 = .slice es sp ∧ l.length ≤ es.length + sp.length) := by
  have hs : Tryz.prog.underlying 25 = some (.slice 91) := by kernel_rfl
  have hc3 : Tryz.prog.cellsOf 91 = 2 := by kernel_rfl
  rcases open_slice hs hf with ⟨hc, hx⟩ | ⟨b, n, c, m, k, D, Pl, hc, hb, hl, hm, hmm, hx, hall⟩
  · simp at hc
    subst hc
    exact ⟨none, 0, [], rfl, Nat.le_refl _, by decide, Or.inl rfl, by simp, Or.inl rfl⟩
  · simp at hc
    subst hc
    have hlm : n ≤ m := by rw [hmm]; split <;> omega
    have hw : ∃ es sp, y.1 = .slice es sp ∧ es.length + sp.length = m := by
      rw [hx]
      refine ⟨_, _, rfl, ?_⟩
      simp
      omega
    have each : ∀ i, i < n → ∃ t : Cp, rgCp t ∧ ∀ (j : Nat) (x : Value), (cpC t)[j]? = some x → W.cell? (b.add (i * 2 + j)) = some x := by
      intro i hi
      obtain ⟨cs', h1, h2⟩ := hall i (by omega)
      rw [hc3] at h1
      obtain ⟨_, hlen, hcell⟩ := World.cells?_some h1
      obtain ⟨c0, c1, rfl⟩ := listW2 cs' hlen
      obtain ⟨t, ht, he⟩ := cp_trod h2
      refine ⟨t, ht, fun j x hj => ?_⟩
      have hj2 : j < 2 := (Array.getElem?_eq_some_iff.1 hj).1
      have g := hcell j (by omega)
      rw [add_add] at g
      rw [g]
      have e2 : ([c0, c1] : List Value)[j]? = some x := by rw [he]; simpa using hj
      exact e2
    obtain ⟨z, hz⟩ := choose_lt each
    obtain ⟨bb, bo, bs⟩ := b
    rcases Nat.eq_zero_or_pos n with rfl | q0
    · exact ⟨some ⟨bb, bo, bs⟩, c, [], rfl, hl, hm, Or.inl rfl, by simp, Or.inl rfl⟩
    have h0 := (hz 0 q0).2 0 _ rfl
    have hspot : bs = none := by simpa [Addr.add] using World.cell?_spot h0
    subst hspot
    refine ⟨some ⟨bb, bo, none⟩, c, (List.range n).map z, by simp, by simpa using hl, hm, Or.inr ⟨bb, bo, rfl, ?_, fun j hj k x hx => ?_⟩, ?_, Or.inr (by obtain ⟨es, sp, h1, h2⟩ := hw; exact ⟨es, sp, h1, by simp; omega⟩)⟩
    · have := World.block_lt_of_cell? W _ h0
      simpa [Addr.add] using this
    · have hj' : j < n := by simpa using hj
      simp only [List.getElem_map, List.getElem_range] at hx
      have e0 := (hz j hj').2 k x hx
      rw [add_plain] at e0
      rw [Nat.add_assoc]
      exact e0
    · intro v hv
      obtain ⟨j, hj, rfl⟩ := List.mem_map.1 hv
      exact (hz j (List.mem_range.1 hj)).1


set_option maxRecDepth 100000 in
theorem mg_trod {H : Type} {enc : TypeId × Value → H} {W : World} {base fuel : Nat} {sp : Nat → Bool} {held : Bool} {c0 c1 c2 c3 c4 : Value} {y : DataW H × List MemPlace}
    (h : DataW.trod enc Tryz.prog W base sp held fuel 94 [c0, c1, c2, c3, c4] = some y) : ∃ x : Mg, rgMg x ∧ [c0, c1, c2, c3, c4] = (mgC x).toList := by
  have _h2 : Tryz.prog.cellsOf 3 = 1 := by kernel_rfl
  have _h3 : Tryz.prog.cellsOf 9 = 1 := by kernel_rfl
  have _h4 : Tryz.prog.cellsOf 23 = 2 := by kernel_rfl
  obtain ⟨xs, n, _, hx, _, hlen, hg⟩ := DataW.trod_struct Tryz.underlying94 h
  obtain ⟨y0, y1, y2, y3, rfl⟩ := listW4 xs hlen
  have g0 := hg 0 _ rfl
  have g1 := hg 1 _ rfl
  have g2 := hg 2 _ rfl
  have g3 := hg 3 _ rfl
  obtain ⟨z0, rz0, ez0⟩ := nm_trod g0
  simp only [nmC, List.cons.injEq, and_true] at ez0
  obtain ⟨rfl, rfl⟩ := ez0
  obtain ⟨x1, e1, _, wf1⟩ := DataW.trod_int Tryz.underlying3 g1
  obtain rfl : c2 = .int .i64 x1 := (List.cons.inj (show [c2] = [.int .i64 x1] from e1)).1
  obtain ⟨x2, e2, _, wf2⟩ := DataW.trod_int Tryz.underlying3 g2
  obtain rfl : c3 = .int .i64 x2 := (List.cons.inj (show [c3] = [.int .i64 x2] from e2)).1
  obtain ⟨x3, e3, q3, sb3⟩ := DataW.trod_string Tryz.underlying9 g3
  obtain rfl : c4 = .string x3 := (List.cons.inj (show [c4] = [.string x3] from e3)).1
  exact ⟨⟨z0.su, z0.id, x1, x2, x3⟩, ⟨rz0.1, bounds_i64 wf1, bounds_i64 wf2, rz0.2, sb3⟩, rfl⟩

/- A cell that reads as a list of ways to manage. -/
set_option maxRecDepth 100000 in
theorem mgs_cell {H : Type} {enc : TypeId × Value → H} {W : World} {fuel : Nat} {z0 : Value} {y : DataW H × List MemPlace}
    (hf : DataW.trod enc Tryz.prog W 0 (fun _ => true) true fuel 26 [z0] = some y) : ∃ (a : Option Addr) (c : Nat) (l : List Mg), z0 = .slice a l.length c ∧ l.length ≤ c ∧ c ≤ maxLen ∧ MgIn W a l ∧ (∀ x ∈ l, rgMg x) ∧ (l = [] ∨ ∃ es sp, y.1 = .slice es sp ∧ l.length ≤ es.length + sp.length) := by
  have hs : Tryz.prog.underlying 26 = some (.slice 94) := by kernel_rfl
  have hc3 : Tryz.prog.cellsOf 94 = 5 := by kernel_rfl
  rcases open_slice hs hf with ⟨hc, hx⟩ | ⟨b, n, c, m, k, D, Pl, hc, hb, hl, hm, hmm, hx, hall⟩
  · simp at hc
    subst hc
    exact ⟨none, 0, [], rfl, Nat.le_refl _, by decide, Or.inl rfl, by simp, Or.inl rfl⟩
  · simp at hc
    subst hc
    have hlm : n ≤ m := by rw [hmm]; split <;> omega
    have hw : ∃ es sp, y.1 = .slice es sp ∧ es.length + sp.length = m := by
      rw [hx]
      refine ⟨_, _, rfl, ?_⟩
      simp
      omega
    have each : ∀ i, i < n → ∃ t : Mg, rgMg t ∧ ∀ (j : Nat) (x : Value), (mgC t)[j]? = some x → W.cell? (b.add (i * 5 + j)) = some x := by
      intro i hi
      obtain ⟨cs', h1, h2⟩ := hall i (by omega)
      rw [hc3] at h1
      obtain ⟨_, hlen, hcell⟩ := World.cells?_some h1
      obtain ⟨c0, c1, c2, c3, c4, rfl⟩ := listW5 cs' hlen
      obtain ⟨t, ht, he⟩ := mg_trod h2
      refine ⟨t, ht, fun j x hj => ?_⟩
      have hj2 : j < 5 := (Array.getElem?_eq_some_iff.1 hj).1
      have g := hcell j (by omega)
      rw [add_add] at g
      rw [g]
      have e2 : ([c0, c1, c2, c3, c4] : List Value)[j]? = some x := by rw [he]; simpa using hj
      exact e2
    obtain ⟨z, hz⟩ := choose_lt each
    obtain ⟨bb, bo, bs⟩ := b
    rcases Nat.eq_zero_or_pos n with rfl | q0
    · exact ⟨some ⟨bb, bo, bs⟩, c, [], rfl, hl, hm, Or.inl rfl, by simp, Or.inl rfl⟩
    have h0 := (hz 0 q0).2 0 _ rfl
    have hspot : bs = none := by simpa [Addr.add] using World.cell?_spot h0
    subst hspot
    refine ⟨some ⟨bb, bo, none⟩, c, (List.range n).map z, by simp, by simpa using hl, hm, Or.inr ⟨bb, bo, rfl, ?_, fun j hj k x hx => ?_⟩, ?_, Or.inr (by obtain ⟨es, sp, h1, h2⟩ := hw; exact ⟨es, sp, h1, by simp; omega⟩)⟩
    · have := World.block_lt_of_cell? W _ h0
      simpa [Addr.add] using this
    · have hj' : j < n := by simpa using hj
      simp only [List.getElem_map, List.getElem_range] at hx
      have e0 := (hz j hj').2 k x hx
      rw [add_plain] at e0
      rw [Nat.add_assoc]
      exact e0
    · intro v hv
      obtain ⟨j, hj, rfl⟩ := List.mem_map.1 hv
      exact (hz j (List.mem_range.1 hj)).1


set_option maxRecDepth 100000 in
theorem og_trod {H : Type} {enc : TypeId × Value → H} {W : World} {base fuel : Nat} {sp : Nat → Bool} {held : Bool} {c0 c1 c2 : Value} {y : DataW H × List MemPlace}
    (h : DataW.trod enc Tryz.prog W base sp held fuel 116 [c0, c1, c2] = some y) : ∃ x : Og, rgOg x ∧ [c0, c1, c2] = (ogC x).toList := by
  have _h2 : Tryz.prog.cellsOf 3 = 1 := by kernel_rfl
  have _h3 : Tryz.prog.cellsOf 9 = 1 := by kernel_rfl
  obtain ⟨xs, n, _, hx, _, hlen, hg⟩ := DataW.trod_struct Tryz.underlying116 h
  obtain ⟨y0, y1, y2, rfl⟩ := listW3 xs hlen
  have g0 := hg 0 _ rfl
  have g1 := hg 1 _ rfl
  have g2 := hg 2 _ rfl
  obtain ⟨x0, e0, _, wf0⟩ := DataW.trod_int Tryz.underlying3 g0
  obtain rfl : c0 = .int .i64 x0 := (List.cons.inj (show [c0] = [.int .i64 x0] from e0)).1
  obtain ⟨x1, e1, _, wf1⟩ := DataW.trod_int Tryz.underlying3 g1
  obtain rfl : c1 = .int .i64 x1 := (List.cons.inj (show [c1] = [.int .i64 x1] from e1)).1
  obtain ⟨x2, e2, q2, sb2⟩ := DataW.trod_string Tryz.underlying9 g2
  obtain rfl : c2 = .string x2 := (List.cons.inj (show [c2] = [.string x2] from e2)).1
  exact ⟨⟨x0, x1, x2⟩, ⟨bounds_i64 wf0, bounds_i64 wf1, sb2⟩, rfl⟩

/- A cell that reads as a list of what organisations tell. -/
set_option maxRecDepth 100000 in
theorem ogs_cell {H : Type} {enc : TypeId × Value → H} {W : World} {fuel : Nat} {z0 : Value} {y : DataW H × List MemPlace}
    (hf : DataW.trod enc Tryz.prog W 0 (fun _ => true) true fuel 27 [z0] = some y) : ∃ (a : Option Addr) (c : Nat) (l : List Og), z0 = .slice a l.length c ∧ l.length ≤ c ∧ c ≤ maxLen ∧ OgIn W a l ∧ (∀ x ∈ l, rgOg x) ∧ (l = [] ∨ ∃ es sp, y.1 = .slice es sp ∧ l.length ≤ es.length + sp.length) := by
  have hs : Tryz.prog.underlying 27 = some (.slice 116) := by kernel_rfl
  have hc3 : Tryz.prog.cellsOf 116 = 3 := by kernel_rfl
  rcases open_slice hs hf with ⟨hc, hx⟩ | ⟨b, n, c, m, k, D, Pl, hc, hb, hl, hm, hmm, hx, hall⟩
  · simp at hc
    subst hc
    exact ⟨none, 0, [], rfl, Nat.le_refl _, by decide, Or.inl rfl, by simp, Or.inl rfl⟩
  · simp at hc
    subst hc
    have hlm : n ≤ m := by rw [hmm]; split <;> omega
    have hw : ∃ es sp, y.1 = .slice es sp ∧ es.length + sp.length = m := by
      rw [hx]
      refine ⟨_, _, rfl, ?_⟩
      simp
      omega
    have each : ∀ i, i < n → ∃ t : Og, rgOg t ∧ ∀ (j : Nat) (x : Value), (ogC t)[j]? = some x → W.cell? (b.add (i * 3 + j)) = some x := by
      intro i hi
      obtain ⟨cs', h1, h2⟩ := hall i (by omega)
      rw [hc3] at h1
      obtain ⟨_, hlen, hcell⟩ := World.cells?_some h1
      obtain ⟨c0, c1, c2, rfl⟩ := listW3 cs' hlen
      obtain ⟨t, ht, he⟩ := og_trod h2
      refine ⟨t, ht, fun j x hj => ?_⟩
      have hj2 : j < 3 := (Array.getElem?_eq_some_iff.1 hj).1
      have g := hcell j (by omega)
      rw [add_add] at g
      rw [g]
      have e2 : ([c0, c1, c2] : List Value)[j]? = some x := by rw [he]; simpa using hj
      exact e2
    obtain ⟨z, hz⟩ := choose_lt each
    obtain ⟨bb, bo, bs⟩ := b
    rcases Nat.eq_zero_or_pos n with rfl | q0
    · exact ⟨some ⟨bb, bo, bs⟩, c, [], rfl, hl, hm, Or.inl rfl, by simp, Or.inl rfl⟩
    have h0 := (hz 0 q0).2 0 _ rfl
    have hspot : bs = none := by simpa [Addr.add] using World.cell?_spot h0
    subst hspot
    refine ⟨some ⟨bb, bo, none⟩, c, (List.range n).map z, by simp, by simpa using hl, hm, Or.inr ⟨bb, bo, rfl, ?_, fun j hj k x hx => ?_⟩, ?_, Or.inr (by obtain ⟨es, sp, h1, h2⟩ := hw; exact ⟨es, sp, h1, by simp; omega⟩)⟩
    · have := World.block_lt_of_cell? W _ h0
      simpa [Addr.add] using this
    · have hj' : j < n := by simpa using hj
      simp only [List.getElem_map, List.getElem_range] at hx
      have e0 := (hz j hj').2 k x hx
      rw [add_plain] at e0
      rw [Nat.add_assoc]
      exact e0
    · intro v hv
      obtain ⟨j, hj, rfl⟩ := List.mem_map.1 hv
      exact (hz j (List.mem_range.1 hj)).1


theorem listW1 {α : Type} (l : List α) (h : l.length = 1) : ∃ c0, l = [c0] := by
  match l, h with
  | [c0], _ => exact ⟨c0, rfl⟩
theorem st_trod {H : Type} {enc : TypeId × Value → H} {W : World} {base fuel : Nat} {sp : Nat → Bool} {held : Bool} {c0 : Value} {y : DataW H × List MemPlace}
    (h : DataW.trod enc Tryz.prog W base sp held fuel 9 [c0] = some y) : ∃ x : ByteArray, x.size ≤ maxLen ∧ [c0] = (stC x).toList := by
  obtain ⟨x1, e1, q1, sb1⟩ := DataW.trod_string Tryz.underlying9 h
  obtain rfl : c0 = .string x1 := (List.cons.inj (show [c0] = [.string x1] from e1)).1
  exact ⟨x1, sb1, rfl⟩
/- A cell that reads as a list of capabilities. -/
set_option maxRecDepth 100000 in
theorem sts_cell {H : Type} {enc : TypeId × Value → H} {W : World} {fuel : Nat} {z0 : Value} {y : DataW H × List MemPlace}
    (hf : DataW.trod enc Tryz.prog W 0 (fun _ => true) true fuel 24 [z0] = some y) : ∃ (a : Option Addr) (c : Nat) (l : List ByteArray), z0 = .slice a l.length c ∧ l.length ≤ c ∧ c ≤ maxLen ∧ StIn W a l ∧ (∀ x ∈ l, x.size ≤ maxLen) ∧ (l = [] ∨ ∃ es sp, y.1 = .slice es sp ∧ l.length ≤ es.length + sp.length) := by
  have hs : Tryz.prog.underlying 24 = some (.slice 9) := by kernel_rfl
  have hc3 : Tryz.prog.cellsOf 9 = 1 := by kernel_rfl
  rcases open_slice hs hf with ⟨hc, hx⟩ | ⟨b, n, c, m, k, D, Pl, hc, hb, hl, hm, hmm, hx, hall⟩
  · simp at hc
    subst hc
    exact ⟨none, 0, [], rfl, Nat.le_refl _, by decide, Or.inl rfl, by simp, Or.inl rfl⟩
  · simp at hc
    subst hc
    have hlm : n ≤ m := by rw [hmm]; split <;> omega
    have hw : ∃ es sp, y.1 = .slice es sp ∧ es.length + sp.length = m := by
      rw [hx]
      refine ⟨_, _, rfl, ?_⟩
      simp
      omega
    have each : ∀ i, i < n → ∃ t : ByteArray, t.size ≤ maxLen ∧ ∀ (j : Nat) (x : Value), (stC t)[j]? = some x → W.cell? (b.add (i * 1 + j)) = some x := by
      intro i hi
      obtain ⟨cs', h1, h2⟩ := hall i (by omega)
      rw [hc3] at h1
      obtain ⟨_, hlen, hcell⟩ := World.cells?_some h1
      obtain ⟨c0, rfl⟩ := listW1 cs' hlen
      obtain ⟨t, ht, he⟩ := st_trod h2
      refine ⟨t, ht, fun j x hj => ?_⟩
      have hj2 : j < 1 := (Array.getElem?_eq_some_iff.1 hj).1
      have g := hcell j (by omega)
      rw [add_add] at g
      rw [g]
      have e2 : ([c0] : List Value)[j]? = some x := by rw [he]; simpa using hj
      exact e2
    obtain ⟨z, hz⟩ := choose_lt each
    obtain ⟨bb, bo, bs⟩ := b
    rcases Nat.eq_zero_or_pos n with rfl | q0
    · exact ⟨some ⟨bb, bo, bs⟩, c, [], rfl, hl, hm, Or.inl rfl, by simp, Or.inl rfl⟩
    have h0 := (hz 0 q0).2 0 _ rfl
    have hspot : bs = none := by simpa [Addr.add] using World.cell?_spot h0
    subst hspot
    refine ⟨some ⟨bb, bo, none⟩, c, (List.range n).map z, by simp, by simpa using hl, hm, Or.inr ⟨bb, bo, rfl, ?_, fun j hj k x hx => ?_⟩, ?_, Or.inr (by obtain ⟨es, sp, h1, h2⟩ := hw; exact ⟨es, sp, h1, by simp; omega⟩)⟩
    · have := World.block_lt_of_cell? W _ h0
      simpa [Addr.add] using this
    · have hj' : j < n := by simpa using hj
      simp only [List.getElem_map, List.getElem_range] at hx
      have e0 := (hz j hj').2 k x hx
      rw [add_plain] at e0
      rw [Nat.add_assoc]
      exact e0
    · intro v hv
      obtain ⟨j, hj, rfl⟩ := List.mem_map.1 hv
      exact (hz j (List.mem_range.1 hj)).1



/-- Lists as long as may be reached. -/
def lenL (x : Ld) : Prop := x.de.length ≤ 140737488355328 ∧ x.ho.length ≤ 140737488355328 ∧ x.sy.length ≤ 140737488355328 ∧ x.ca.length ≤ 140737488355328 ∧ x.ma.length ≤ 140737488355328 ∧ x.og.length ≤ 140737488355328
theorem weights_ofL {H : Type} {P : Program} {ts : List TypeId} {ds : List (DataW H)} (h : (DataW.weightsEach P ts ds).all (· ≤ reachBytes) = true) {j : Nat} {t : TypeId} {d : DataW H} (ht : ts[j]? = some t) (hd : ds[j]? = some d) : ∀ n ∈ d.weights P t, n ≤ reachBytes := fun m hm => by
  have := List.all_eq_true.1 h m (DataW.weights_mem_each ht hd m hm)
  simpa using this
set_option maxRecDepth 100000 in
theorem open_og {H : Type} {enc : TypeId × Value → H} {W : World} {base : Nat} {v : Value} {d : DataW H} {p : List MemPlace} (hval : Value.okWide Tryz.prog W .any base 116 v)
    (h : DataW.Trod enc Tryz.prog W 0 (fun _ => true) true 116 v d p) : ∃ x : Og, rgOg x ∧ v = .agg (ogC x) := by
  have hcn : Tryz.prog.cellsOf 116 = 3 := by kernel_rfl
  obtain ⟨cs, rfl, hsz⟩ := okWide_struct Tryz.underlying116 hval
  rw [hcn] at hsz
  obtain ⟨l⟩ := cs
  obtain ⟨c0, c1, c2, rfl⟩ := listW3 l hsz
  obtain ⟨fuel, hf⟩ := h
  have h : DataW.trod enc Tryz.prog W 0 (fun _ => true) true fuel 116 [c0, c1, c2] = some (d, p) := by simpa [Value.cells] using hf
  obtain ⟨x, hr, he⟩ := og_trod h
  refine ⟨x, hr, ?_⟩
  rw [he]
set_option maxRecDepth 100000 in
theorem open_ld {H : Type} {enc : TypeId × Value → H} {W : World} {base : Nat} {v : Value} {d : DataW H} {p : List MemPlace} (hval : Value.okWide Tryz.prog W .any base 29 v)
    (h : DataW.Trod enc Tryz.prog W 0 (fun _ => true) true 29 v d p) : ∃ (x : Ld) (q : LdA), (rgLd x ∧ LdIn W x q ∧ ((∀ k ∈ d.weights Tryz.prog 29, k ≤ reachBytes) → lenL x) ∧ (∀ y ∈ x.de, y.size ≤ maxLen) ∧ (∀ y ∈ x.ho, y.size ≤ maxLen) ∧ (∀ y ∈ x.sy, y.size ≤ maxLen)) ∧ v = .agg (ldC x q) := by
  have hcn : Tryz.prog.cellsOf 29 = 11 := by kernel_rfl
  have _h1 : Tryz.prog.cellsOf 23 = 2 := by kernel_rfl
  have _h2 : Tryz.prog.cellsOf 3 = 1 := by kernel_rfl
  have _h3 : Tryz.prog.cellsOf 24 = 1 := by kernel_rfl
  have _h4 : Tryz.prog.cellsOf 25 = 1 := by kernel_rfl
  have _h5 : Tryz.prog.cellsOf 26 = 1 := by kernel_rfl
  have _h6 : Tryz.prog.cellsOf 27 = 1 := by kernel_rfl
  obtain ⟨cs, rfl, hsz⟩ := okWide_struct Tryz.underlying29 hval
  rw [hcn] at hsz
  obtain ⟨l⟩ := cs
  obtain ⟨c0, c1, c2, c3, c4, c5, c6, c7, c8, c9, c10, rfl⟩ := listW11 l hsz
  obtain ⟨fuel, hf⟩ := h
  have h : DataW.trod enc Tryz.prog W 0 (fun _ => true) true fuel 29 [c0, c1, c2, c3, c4, c5, c6, c7, c8, c9, c10] = some (d, p) := by simpa [Value.cells] using hf
  obtain ⟨xs, n, _, hx, _, hlen, hg⟩ := DataW.trod_struct Tryz.underlying29 h
  obtain ⟨y0, y1, y2, y3, y4, y5, y6, y7, y8, rfl⟩ := listW9 xs hlen
  have g0 := hg 0 _ rfl
  have g1 := hg 1 _ rfl
  have g2 := hg 2 _ rfl
  have g3 := hg 3 _ rfl
  have g4 := hg 4 _ rfl
  have g5 := hg 5 _ rfl
  have g6 := hg 6 _ rfl
  have g7 := hg 7 _ rfl
  have g8 := hg 8 _ rfl
  obtain ⟨z0, rz0, ez0⟩ := nm_trod g0
  simp only [nmC, List.cons.injEq, and_true] at ez0
  obtain ⟨rfl, rfl⟩ := ez0
  obtain ⟨z1, rz1, ez1⟩ := nm_trod g1
  simp only [nmC, List.cons.injEq, and_true] at ez1
  obtain ⟨rfl, rfl⟩ := ez1
  obtain ⟨x2, e2, _, wf2⟩ := DataW.trod_int Tryz.underlying3 g2
  obtain rfl : c4 = .int .i64 x2 := (List.cons.inj (show [c4] = [.int .i64 x2] from e2)).1
  obtain ⟨a3, k3, l3, rfl, hlc3, hcm3, hin3, hall3, hwt3⟩ := sts_cell g3
  obtain ⟨a4, k4, l4, rfl, hlc4, hcm4, hin4, hall4, hwt4⟩ := sts_cell g4
  obtain ⟨a5, k5, l5, rfl, hlc5, hcm5, hin5, hall5, hwt5⟩ := sts_cell g5
  obtain ⟨a6, k6, l6, rfl, hlc6, hcm6, hin6, hall6, hwt6⟩ := cps_cell g6
  obtain ⟨a7, k7, l7, rfl, hlc7, hcm7, hin7, hall7, hwt7⟩ := mgs_cell g7
  obtain ⟨a8, k8, l8, rfl, hlc8, hcm8, hin8, hall8, hwt8⟩ := ogs_cell g8
  have hw : (∀ k ∈ d.weights Tryz.prog 29, k ≤ reachBytes) → lenL ⟨z0, z1, x2, l3, l4, l5, l6, l7, l8⟩ := fun hw => by
    simp only [Prod.mk.injEq] at hx
    have hd : d = .agg [y0.1, y1.1, y2.1, y3.1, y4.1, y5.1, y6.1, y7.1, y8.1] := hx.1
    rw [hd] at hw
    have hW : DataW.weights Tryz.prog 29 (.agg [y0.1, y1.1, y2.1, y3.1, y4.1, y5.1, y6.1, y7.1, y8.1]) = DataW.weightsEach Tryz.prog [23, 23, 3, 24, 24, 24, 25, 26, 27] [y0.1, y1.1, y2.1, y3.1, y4.1, y5.1, y6.1, y7.1, y8.1] := by
      rw [DataW.weights, Tryz.underlying29]
      rfl
    rw [hW] at hw
    have hr : reachBytes ≤ 140737488355328 := by decide
    have n3 : l3.length ≤ 140737488355328 := by
      have hs : Tryz.prog.underlying 24 = some (.slice 9) := by kernel_rfl
      have hby : 1 ≤ Tryz.prog.bytesOf 9 := of_decide_eq_true (by kernel_rfl)
      rcases hwt3 with h0 | ⟨es, sp, hy, hl⟩
      · rw [h0]; exact Nat.zero_le _
      · have h1 := hw ((es.length + sp.length) * Tryz.prog.bytesOf 9) (DataW.weights_mem_each (j := 3) rfl rfl _ (by rw [hy]; simp [DataW.weights, hs]))
        have h2 : (es.length + sp.length) * 1 ≤ (es.length + sp.length) * Tryz.prog.bytesOf 9 := Nat.mul_le_mul_left _ hby
        omega
    have n4 : l4.length ≤ 140737488355328 := by
      have hs : Tryz.prog.underlying 24 = some (.slice 9) := by kernel_rfl
      have hby : 1 ≤ Tryz.prog.bytesOf 9 := of_decide_eq_true (by kernel_rfl)
      rcases hwt4 with h0 | ⟨es, sp, hy, hl⟩
      · rw [h0]; exact Nat.zero_le _
      · have h1 := hw ((es.length + sp.length) * Tryz.prog.bytesOf 9) (DataW.weights_mem_each (j := 4) rfl rfl _ (by rw [hy]; simp [DataW.weights, hs]))
        have h2 : (es.length + sp.length) * 1 ≤ (es.length + sp.length) * Tryz.prog.bytesOf 9 := Nat.mul_le_mul_left _ hby
        omega
    have n5 : l5.length ≤ 140737488355328 := by
      have hs : Tryz.prog.underlying 24 = some (.slice 9) := by kernel_rfl
      have hby : 1 ≤ Tryz.prog.bytesOf 9 := of_decide_eq_true (by kernel_rfl)
      rcases hwt5 with h0 | ⟨es, sp, hy, hl⟩
      · rw [h0]; exact Nat.zero_le _
      · have h1 := hw ((es.length + sp.length) * Tryz.prog.bytesOf 9) (DataW.weights_mem_each (j := 5) rfl rfl _ (by rw [hy]; simp [DataW.weights, hs]))
        have h2 : (es.length + sp.length) * 1 ≤ (es.length + sp.length) * Tryz.prog.bytesOf 9 := Nat.mul_le_mul_left _ hby
        omega
    have n6 : l6.length ≤ 140737488355328 := by
      have hs : Tryz.prog.underlying 25 = some (.slice 91) := by kernel_rfl
      have hby : 1 ≤ Tryz.prog.bytesOf 91 := of_decide_eq_true (by kernel_rfl)
      rcases hwt6 with h0 | ⟨es, sp, hy, hl⟩
      · rw [h0]; exact Nat.zero_le _
      · have h1 := hw ((es.length + sp.length) * Tryz.prog.bytesOf 91) (DataW.weights_mem_each (j := 6) rfl rfl _ (by rw [hy]; simp [DataW.weights, hs]))
        have h2 : (es.length + sp.length) * 1 ≤ (es.length + sp.length) * Tryz.prog.bytesOf 91 := Nat.mul_le_mul_left _ hby
        omega
    have n7 : l7.length ≤ 140737488355328 := by
      have hs : Tryz.prog.underlying 26 = some (.slice 94) := by kernel_rfl
      have hby : 1 ≤ Tryz.prog.bytesOf 94 := of_decide_eq_true (by kernel_rfl)
      rcases hwt7 with h0 | ⟨es, sp, hy, hl⟩
      · rw [h0]; exact Nat.zero_le _
      · have h1 := hw ((es.length + sp.length) * Tryz.prog.bytesOf 94) (DataW.weights_mem_each (j := 7) rfl rfl _ (by rw [hy]; simp [DataW.weights, hs]))
        have h2 : (es.length + sp.length) * 1 ≤ (es.length + sp.length) * Tryz.prog.bytesOf 94 := Nat.mul_le_mul_left _ hby
        omega
    have n8 : l8.length ≤ 140737488355328 := by
      have hs : Tryz.prog.underlying 27 = some (.slice 116) := by kernel_rfl
      have hby : 1 ≤ Tryz.prog.bytesOf 116 := of_decide_eq_true (by kernel_rfl)
      rcases hwt8 with h0 | ⟨es, sp, hy, hl⟩
      · rw [h0]; exact Nat.zero_le _
      · have h1 := hw ((es.length + sp.length) * Tryz.prog.bytesOf 116) (DataW.weights_mem_each (j := 8) rfl rfl _ (by rw [hy]; simp [DataW.weights, hs]))
        have h2 : (es.length + sp.length) * 1 ≤ (es.length + sp.length) * Tryz.prog.bytesOf 116 := Nat.mul_le_mul_left _ hby
        omega
    exact ⟨n3, n4, n5, n6, n7, n8⟩
  exact ⟨⟨z0, z1, x2, l3, l4, l5, l6, l7, l8⟩, ⟨(a3, k3), (a4, k4), (a5, k5), (a6, k6), (a7, k7), (a8, k8)⟩, ⟨⟨rz0, rz1, bounds_i64 wf2, hall6, hall7, hall8, Nat.le_trans hlc3 hcm3, Nat.le_trans hlc4 hcm4, Nat.le_trans hlc5 hcm5, Nat.le_trans hlc6 hcm6, Nat.le_trans hlc7 hcm7, Nat.le_trans hlc8 hcm8⟩, ⟨hin3, hin4, hin5, hin6, hin7, hin8⟩, hw, hall3, hall4, hall5⟩, rfl⟩

end Go.Proofs.YtcijhmbimbejfaaGreatDoor

namespace Go.Proofs.YtcijhmbimbejfaaGreatDoor.lldpBack
open Go.ChangeShapes Go.WideShapes Go.ChangeAt Go.RowKit
set_option linter.unusedVariables false

theorem laidOut_ : laidOutB Tryz.prog = true := by kernel_rfl
/-- An announcement of nothing. -/
def argL : Value := .agg #[.int .i64 0, .string ⟨#[]⟩, .int .i64 0, .string ⟨#[]⟩, .int .i64 0, .slice none 0 0, .slice none 0 0, .slice none 0 0, .slice none 0 0, .slice none 0 0, .slice none 0 0]


theorem laid_met (os : Os) : laidMetH Tryz.prog Rows.lldpBackRow.laid ((laidWorld os).forCall (fun _ _ => 0) ⟨#[], #[argL], []⟩).memory :=
  laidMetH_of_parts3 (fuel := 8) (laidMet_of_run' 8 (by kernel_rfl) (by kernel_rfl)) (by kernel_rfl) (by kernel_rfl)
theorem reads (os : Os) {H : Type} (enc : TypeId × Value → H) : ∃ places, DataW.whole enc Tryz.prog ((laidWorld os).forCall (fun _ _ => 0) ⟨#[], #[argL], []⟩).memory Tryz.f4.params.toList Rows.lldpBackSpec.vars false #[argL].toList 8 = some ([.agg [.agg [.lit (.int .i64 0), .lit (.string [])], .agg [.lit (.int .i64 0), .lit (.string [])], .lit (.int .i64 0), .nil, .nil, .nil, .nil, .nil, .nil]], [], places) :=
  ⟨[], by kernel_rfl⟩

set_option maxRecDepth 100000 in
theorem lifted (os : Os) (started : os.Started) (H : Type) (enc : TypeId × Value → H) (F : Stop.Interp) :
    ReturnsInHanded {} Tryz.checked os 4 .any ((OpenSpec.ofChange Rows.lldpBackSpec).preRow enc Tryz.prog Tryz.f4 Rows.lldpBackRow.domain false Rows.lldpBackRow.laid) (((OpenSpec.ofChange Rows.lldpBackSpec).at F).post enc Tryz.prog Tryz.f4 false true false false) := by
  obtain ⟨places, hx⟩ := reads os enc
  refine returnsInHanded_of_row (C := Tryz.checked) (s := OpenSpec.ofChange Rows.lldpBackSpec) own started (by kernel_rfl) Tryz.func4
    (witness_row_at (enc := enc) (C := Tryz.checked) false (laidWorld os) #[argL] rfl (by kernel_rfl) (by kernel_rfl) (by kernel_rfl)
      (OpenSpec.preRow_of_cond 8 hx (by kernel_rfl) (fun k hk => by cases hk) (by kernel_rfl) (laid_met os))) ?_
  intro W base args ds gs before hval0 hW _ _ hSz hL hsh _
  have hval : ∀ (j : Nat) t v, Tryz.f4.params[j]? = some t → args[j]? = some v → Value.okWide Tryz.prog W .any base t v := hval0
  have hE := hasErr_of_laid hL (by simp [Rows.lldpBackRow])
  have hW' := hW
  obtain ⟨p, q, hA0, hV, rfl, hfz, hnd⟩ := hW
  have hA : DataW.TrodAll enc Tryz.prog W 0 (fun _ => true) true Tryz.f4.params.toList args.toList ds p := hA0
  rw [Tryz.params4] at hA hval
  obtain ⟨v0, vs0, d0, ds0, p0, q0, hargs, rfl, rfl, h0, r0⟩ := trodAll_cons hA
  obtain ⟨rfl, rfl, rfl⟩ := trodAll_nil r0
  obtain rfl : args = #[v0] := by cases args; simp_all
  obtain ⟨rfl, rfl⟩ := trodVars_none hV
  clear hA0
  simp only [List.append_nil] at hW'
  have hlt := hW'.lt
  obtain ⟨x0, q0, hh0, hv0⟩ := open_ld (hval 0 29 v0 rfl rfl) h0
  subst hv0
  refine (walk x0 q0 W hh0.2.1 hh0.1 hE).mono fun e W' ⟨he, hb⟩ => ?_
  subst he
  exact ⟨_, rfl, met_below hW' (fun _ _ _ => (trodAll_cons_mk (shut_bool Tryz.underlying4 _) trodAll_mk0)) (fun sp hsp => by have r := (trodAll_cons_mk (WideElems.Trod_stays laidOut_ (by kernel_rfl) (of_decide_eq_true (by kernel_rfl)) h0 (fun x hx => hb.same (hlt x (by simp [hx]))) (fun x hx => hsp x (by simp [hx]))) trodAll_mk0); simp only [List.append_nil] at r; exact r) (fun _ => rfl) hb
    (ok_one (by kernel_rfl) rfl (okWide_bool_mk Tryz.underlying4 _))⟩

theorem said : Rows.LldpBackSaid :=
  OpenClaim.holds_of_cond 4 Tryz.f4 rfl rfl rfl rfl rfl rfl rfl ⟨rfl, rfl, rfl, rfl, rfl⟩ rfl rfl rfl rfl rfl (by kernel_rfl) Tryz.func4 (by kernel_rfl)
    (of_decide_eq_true (by kernel_rfl)) (by unfold Func.isWrapper; first | (rw [if_pos (by decide +kernel)]; kernel_rfl) | (rw [if_neg (by decide +kernel)]; exact ⟨rfl, rfl⟩))
    (fun os started H enc _ F => by rw [OpenClaim.pre_eq_preRow]; exact lifted os started H enc F)

theorem plain (f : FuncId) (fn : Func) (hf : Tryz.pinned.checked.prog.funcNamed "switchyard/switchyardkeep.LldpBack" = some f) (hfn : Tryz.pinned.checked.prog.funcs[f]? = some fn) :
    true = Tryz.pinned.checked.prog.looks [] ∧ ∀ (j : Nat) t, fn.params[j]? = some t → Tryz.pinned.checked.prog.wantsStandIn t = false := by
  obtain rfl : f = 4 := Option.some.inj ((show Tryz.prog.funcNamed "switchyard/switchyardkeep.LldpBack" = some 4 by kernel_rfl).symm.trans hf) |>.symm
  obtain rfl : fn = Tryz.f4 := (Option.some.inj (Tryz.func4.symm.trans hfn)).symm
  refine ⟨by kernel_rfl, fun j t ht => ?_⟩
  rw [Tryz.params4] at ht
  have hm : t ∈ #[29] := Array.mem_of_getElem? ht
  simp only [List.mem_toArray, List.mem_cons, List.not_mem_nil, or_false] at hm
  rcases hm with rfl
  · exact (show Tryz.prog.wantsStandIn 29 = false by kernel_rfl)

theorem card : Rows.LldpBackCardSaid :=
  Claim7.holds_tied_plain_at .later [] _ _ _ _ said (fun _ h => by cases h) (by kernel_rfl) (fun _ h => by cases h) lldpBack_row_tie rfl ⟨rfl, rfl⟩ (by kernel_rfl) rfl plain (by kernel_rfl)
#print axioms card

end Go.Proofs.YtcijhmbimbejfaaGreatDoor.lldpBack

