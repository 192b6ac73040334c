/- Arguments opened: messages of links. -/
import Derived.Test.YtocgnbbnaamjjaaDoorLc
import Derived.ProofKit
import Derived.OpenShut
import Derived.WideKeyArgs
import Derived.WideShapes
import Derived.SizedLaws
import Derived.Lib.SmallJoins
import Derived.Deep.SlicePairs
namespace Go.Proofs.YtocgnbbnaamjjaaDoor
open Go.ChangeShapes Go.WideShapes Go.ChangeAt Go.RowKit Go.Deep Go.Joins
set_option linter.unusedVariables false

theorem lc_list3 {α : Type} (l : List α) (h : l.length = 3) : ∃ c0 c1 c2, l = [c0, c1, c2] := by
  match l, h with
  | [c0, c1, c2], _ => exact ⟨c0, c1, c2, rfl⟩

theorem lc_list4 {α : Type} (l : List α) (h : l.length = 4) : ∃ c0 c1 c2 c3, l = [c0, c1, c2, c3] := by
  match l, h with
  | [c0, c1, c2, c3], _ => exact ⟨c0, c1, c2, c3, rfl⟩

theorem lc_list6 {α : Type} (l : List α) (h : l.length = 6) : ∃ c0 c1 c2 c3 c4 c5, l = [c0, c1, c2, c3, c4, c5] := by
  match l, h with
  | [c0, c1, c2, c3, c4, c5], _ => exact ⟨c0, c1, c2, c3, c4, c5, rfl⟩

theorem lc_list9 {α : Type} (l : List α) (h : l.length = 9) : ∃ c0 c1 c2 c3 c4 c5 c6 c7 c8, l = [c0, c1, c2, c3, c4, c5, c6, c7, c8] := by
  match l, h with
  | [c0, c1, c2, c3, c4, c5, c6, c7, c8], _ => exact ⟨c0, c1, c2, c3, c4, c5, c6, c7, c8, rfl⟩

theorem lc_list23 {α : Type} (l : List α) (h : l.length = 23) : ∃ c0 c1 c2 c3 c4 c5 c6 c7 c8 c9 c10 c11 c12 c13 c14 c15 c16 c17 c18 c19 c20 c21 c22, l = [c0, c1, c2, c3, c4, c5, c6, c7, c8, c9, c10, c11, c12, c13, c14, c15, c16, c17, c18, c19, c20, c21, c22] := by
  match l, h with
  | [c0, c1, c2, c3, c4, c5, c6, c7, c8, c9, c10, c11, c12, c13, c14, c15, c16, c17, c18, c19, c20, c21, c22], _ => exact ⟨c0, c1, c2, c3, c4, c5, c6, c7, c8, c9, c10, c11, c12, c13, c14, c15, c16, c17, c18, c19, c20, c21, c22, rfl⟩

theorem nat_u8f {z : Int} (h : (Lit.int .u8 z).wf = true) : ∃ n : Nat, z = n ∧ n < 256 := by
  have := bounds_u8 h
  exact ⟨z.toNat, by omega, by omega⟩

set_option maxRecDepth 100000 in
theorem six_trod {H : Type} {enc : TypeId × Value → H} {W : World} {base fuel : Nat} {sp : Nat → Bool} {held : Bool} {c0 c1 c2 c3 c4 c5 : Value} {y : DataW H × List MemPlace}
    (h : DataW.trod enc Tryd.prog W base sp held fuel 23 [c0, c1, c2, c3, c4, c5] = some y) :
    ∃ x : Nat → Nat, (∀ i, x i < 256) ∧ c0 = .int .u8 (x 0) ∧ c1 = .int .u8 (x 1) ∧ c2 = .int .u8 (x 2) ∧ c3 = .int .u8 (x 3) ∧ c4 = .int .u8 (x 4) ∧ c5 = .int .u8 (x 5) := by
  have hc1 : Tryd.prog.cellsOf 5 = 1 := by kernel_rfl
  obtain ⟨xs, m, _, _, _, hl, hx⟩ := DataW.trod_array Tryd.underlying23 h
  rw [hc1] at hx
  have each : ∀ (i : Nat) (c : Value), i < 6 → ((([c0, c1, c2, c3, c4, c5] : List Value).drop (i * 1)).take 1) = [c] → ∃ n : Nat, c = .int .u8 n ∧ n < 256 := by
    intro i c hi hc
    have h1 := hx i hi
    rw [hc] at h1
    obtain ⟨y, hy⟩ : ∃ y, xs[i]? = some y := ⟨xs[i]'(by omega), List.getElem?_eq_getElem _⟩
    rw [hy] at h1
    obtain ⟨z, e0, _, hw⟩ := DataW.trod_int Tryd.underlying5 h1
    simp only [List.cons.injEq, and_true] at e0
    obtain ⟨n, rfl, hn⟩ := nat_u8f hw
    exact ⟨n, e0, hn⟩
  obtain ⟨n0, rfl, h0⟩ := each 0 c0 (by omega) rfl
  obtain ⟨n1, rfl, h1⟩ := each 1 c1 (by omega) rfl
  obtain ⟨n2, rfl, h2⟩ := each 2 c2 (by omega) rfl
  obtain ⟨n3, rfl, h3⟩ := each 3 c3 (by omega) rfl
  obtain ⟨n4, rfl, h4⟩ := each 4 c4 (by omega) rfl
  obtain ⟨n5, rfl, h5⟩ := each 5 c5 (by omega) rfl
  refine ⟨fun i => if i = 0 then n0 else if i = 1 then n1 else if i = 2 then n2 else if i = 3 then n3 else if i = 4 then n4 else n5, fun i => ?_, rfl, rfl, rfl, rfl, rfl, rfl⟩
  dsimp only
  split
  · exact h0
  split
  · exact h1
  split
  · exact h2
  split
  · exact h3
  split
  · exact h4
  exact h5

set_option maxRecDepth 100000 in
theorem py_trod {H : Type} {enc : TypeId × Value → H} {W : World} {base fuel : Nat} {sp : Nat → Bool} {held : Bool} {c0 c1 c2 c3 c4 c5 c6 c7 c8 c9 c10 : Value} {y : DataW H × List MemPlace}
    (h : DataW.trod enc Tryd.prog W base sp held fuel 25 [c0, c1, c2, c3, c4, c5, c6, c7, c8, c9, c10] = some y) : ∃ b : Py, (byPy b ∧ rgPy b) ∧ [c0, c1, c2, c3, c4, c5, c6, c7, c8, c9, c10] = (pyC b).toList := by
  have _h1 : Tryd.prog.cellsOf 23 = 6 := by kernel_rfl
  have _h2 : Tryd.prog.cellsOf 3 = 1 := by kernel_rfl
  obtain ⟨xs, n, _, hx, _, hlen, hg⟩ := DataW.trod_struct Tryd.underlying25 h
  obtain ⟨y0, y1, y2, y3, y4, y5, rfl⟩ := lc_list6 xs hlen
  have g0 := hg 0 _ rfl
  have g1 := hg 1 _ rfl
  have g2 := hg 2 _ rfl
  have g3 := hg 3 _ rfl
  have g4 := hg 4 _ rfl
  have g5 := hg 5 _ rfl
  obtain ⟨x0, e0, _, wf0⟩ := DataW.trod_int Tryd.underlying3 g0
  obtain rfl : c0 = .int .i64 x0 := (List.cons.inj (show [c0] = [.int .i64 x0] from e0)).1
  obtain ⟨ad, had, rfl, rfl, rfl, rfl, rfl, rfl⟩ := six_trod g1
  obtain ⟨x2, e2, _, wf2⟩ := DataW.trod_int Tryd.underlying3 g2
  obtain rfl : c7 = .int .i64 x2 := (List.cons.inj (show [c7] = [.int .i64 x2] from e2)).1
  obtain ⟨x3, e3, _, wf3⟩ := DataW.trod_int Tryd.underlying3 g3
  obtain rfl : c8 = .int .i64 x3 := (List.cons.inj (show [c8] = [.int .i64 x3] from e3)).1
  obtain ⟨x4, e4, _, wf4⟩ := DataW.trod_int Tryd.underlying3 g4
  obtain rfl : c9 = .int .i64 x4 := (List.cons.inj (show [c9] = [.int .i64 x4] from e4)).1
  obtain ⟨x5, e5, _, wf5⟩ := DataW.trod_int Tryd.underlying3 g5
  obtain rfl : c10 = .int .i64 x5 := (List.cons.inj (show [c10] = [.int .i64 x5] from e5)).1
  exact ⟨⟨x0, ad, x2, x3, x4, x5⟩, ⟨had, bounds_i64 wf0, bounds_i64 wf2, bounds_i64 wf3, bounds_i64 wf4, bounds_i64 wf5⟩, rfl⟩

set_option maxRecDepth 100000 in
theorem open_lc {H : Type} {enc : TypeId × Value → H} {W : World} {base : Nat} {v : Value} {d : DataW H} {p : List MemPlace} (hval : Value.okWide Tryd.prog W .any base 27 v)
    (h : DataW.Trod enc Tryd.prog W 0 (fun _ => true) true 27 v d p) : ∃ b : Lc, byLc b ∧ rgLc b ∧ v = .agg (lcC b) := by
  have hcn : Tryd.prog.cellsOf 27 = 23 := by kernel_rfl
  have _h1 : Tryd.prog.cellsOf 25 = 11 := by kernel_rfl
  have _h2 : Tryd.prog.cellsOf 3 = 1 := by kernel_rfl
  obtain ⟨cs, rfl, hsz⟩ := okWide_struct Tryd.underlying27 hval
  rw [hcn] at hsz
  obtain ⟨l⟩ := cs
  obtain ⟨c0, c1, c2, c3, c4, c5, c6, c7, c8, c9, c10, c11, c12, c13, c14, c15, c16, c17, c18, c19, c20, c21, c22, rfl⟩ := lc_list23 l hsz
  obtain ⟨fuel, hf⟩ := h
  have h : DataW.trod enc Tryd.prog W 0 (fun _ => true) true fuel 27 [c0, c1, c2, c3, c4, c5, c6, c7, c8, c9, c10, c11, c12, c13, c14, c15, c16, c17, c18, c19, c20, c21, c22] = some (d, p) := by simpa [Value.cells] using hf
  obtain ⟨xs, n, _, hx, _, hlen, hg⟩ := DataW.trod_struct Tryd.underlying27 h
  obtain ⟨y0, y1, y2, rfl⟩ := lc_list3 xs hlen
  have g0 := hg 0 _ rfl
  have g1 := hg 1 _ rfl
  have g2 := hg 2 _ rfl
  obtain ⟨a, ha, ea⟩ := py_trod g0
  simp only [pyC, List.cons.injEq, and_true] at ea
  obtain ⟨rfl, rfl, rfl, rfl, rfl, rfl, rfl, rfl, rfl, rfl, rfl⟩ := ea
  obtain ⟨q, hq, eq⟩ := py_trod g1
  simp only [pyC, List.cons.injEq, and_true] at eq
  obtain ⟨rfl, rfl, rfl, rfl, rfl, rfl, rfl, rfl, rfl, rfl, rfl⟩ := eq
  obtain ⟨x2, e2, _, wf2⟩ := DataW.trod_int Tryd.underlying3 g2
  obtain rfl : c22 = .int .i64 x2 := (List.cons.inj (show [c22] = [.int .i64 x2] from e2)).1
  exact ⟨⟨a, q, x2⟩, ⟨ha.1, hq.1⟩, ⟨ha.2, hq.2, bounds_i64 wf2⟩, rfl⟩

set_option maxRecDepth 100000 in
theorem open_mk {H : Type} {enc : TypeId × Value → H} {W : World} {base : Nat} {v : Value} {d : DataW H} {p : List MemPlace} (hval : Value.okWide Tryd.prog W .any base 38 v)
    (h : DataW.Trod enc Tryd.prog W 0 (fun _ => true) true 38 v d p) : ∃ b : Mk, byMk b ∧ rgMk b ∧ v = .agg (mkC b) := by
  have hcn : Tryd.prog.cellsOf 38 = 9 := by kernel_rfl
  have _h1 : Tryd.prog.cellsOf 23 = 6 := by kernel_rfl
  have _h2 : Tryd.prog.cellsOf 3 = 1 := by kernel_rfl
  have _h3 : Tryd.prog.cellsOf 4 = 1 := by kernel_rfl
  obtain ⟨cs, rfl, hsz⟩ := okWide_struct Tryd.underlying38 hval
  rw [hcn] at hsz
  obtain ⟨l⟩ := cs
  obtain ⟨c0, c1, c2, c3, c4, c5, c6, c7, c8, rfl⟩ := lc_list9 l hsz
  obtain ⟨fuel, hf⟩ := h
  have h : DataW.trod enc Tryd.prog W 0 (fun _ => true) true fuel 38 [c0, c1, c2, c3, c4, c5, c6, c7, c8] = some (d, p) := by simpa [Value.cells] using hf
  obtain ⟨xs, n, _, hx, _, hlen, hg⟩ := DataW.trod_struct Tryd.underlying38 h
  obtain ⟨y0, y1, y2, y3, rfl⟩ := lc_list4 xs hlen
  have g0 := hg 0 _ rfl
  have g1 := hg 1 _ rfl
  have g2 := hg 2 _ rfl
  have g3 := hg 3 _ rfl
  obtain ⟨x0, e0, _⟩ := DataW.trod_bool Tryd.underlying4 g0
  obtain rfl : c0 = .bool x0 := (List.cons.inj (show [c0] = [.bool x0] from e0)).1
  obtain ⟨x1, e1, _, wf1⟩ := DataW.trod_int Tryd.underlying3 g1
  obtain rfl : c1 = .int .i64 x1 := (List.cons.inj (show [c1] = [.int .i64 x1] from e1)).1
  obtain ⟨ad, had, rfl, rfl, rfl, rfl, rfl, rfl⟩ := six_trod g2
  obtain ⟨x3, e3, _, wf3⟩ := DataW.trod_int Tryd.underlying3 g3
  obtain rfl : c8 = .int .i64 x3 := (List.cons.inj (show [c8] = [.int .i64 x3] from e3)).1
  exact ⟨⟨x0, x1, ad, x3⟩, had, ⟨bounds_i64 wf1, bounds_i64 wf3⟩, rfl⟩

end Go.Proofs.YtocgnbbnaamjjaaDoor
