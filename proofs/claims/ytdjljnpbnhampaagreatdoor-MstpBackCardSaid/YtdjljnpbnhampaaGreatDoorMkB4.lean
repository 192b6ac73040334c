/- The card of switchyardkeep.MstpBack: for every argument it returns true, and the arguments read as they did; what its row lists of package-level variables is tied to the program's text. -/
import Derived.Test.YtdjljnpbnhampaaGreatDoorMkB1
import Derived.Test.YtdjljnpbnhampaaGreatDoorMkB3
import Derived.Test.YtdjljnpbnhampaaGreatDoorBp
import Derived.Test.YtdjljnpbnhampaaGreatDoorBpFits
import Derived.ProofKit
import Derived.OpenShut
import Derived.WideKeyArgs
import Derived.WideShapes
import Derived.SizedLaws
import Derived.Lib.SmallJoins
import Derived.Deep.SlicePairs
import Derived.Below
import Derived.ChangeSame
import Derived.Test.YtdjljnpbnhampaaGreatDoorRows
import Derived.Test.YtdjljnpbnhampaaGreatDoorCards
import Derived.Test.YtdjljnpbnhampaaGreatDoorTie
import Derived.LaidHandle
import Derived.LaidMore
import Derived.LaidSub
import Derived.Deep.DeepHandedRow
import Derived.Lib.LaidTab
namespace Go.Proofs.YtdjljnpbnhampaaGreatDoor
open Go.ChangeShapes Go.WideShapes Go.ChangeAt Go.RowKit Go.Deep Go.Joins
set_option linter.unusedVariables false

theorem list7 {α : Type} (l : List α) (h : l.length = 7) : ∃ c0 c1 c2 c3 c4 c5 c6, l = [c0, c1, c2, c3, c4, c5, c6] := by
  match l, h with
  | [c0, c1, c2, c3, c4, c5, c6], _ => exact ⟨c0, c1, c2, c3, c4, c5, c6, rfl⟩

theorem list10 {α : Type} (l : List α) (h : l.length = 10) : ∃ c0 c1 c2 c3 c4 c5 c6 c7 c8 c9, l = [c0, c1, c2, c3, c4, c5, c6, c7, c8, c9] := by
  match l, h with
  | [c0, c1, c2, c3, c4, c5, c6, c7, c8, c9], _ => exact ⟨c0, c1, c2, c3, c4, c5, c6, c7, c8, c9, rfl⟩

theorem list31 {α : Type} (l : List α) (h : l.length = 31) : ∃ c0 c1 c2 c3 c4 c5 c6 c7 c8 c9 c10 c11 c12 c13 c14 c15 c16 c17 c18 c19 c20 c21 c22 c23 c24 c25 c26 c27 c28 c29 c30, l = [c0, c1, c2, c3, c4, c5, c6, c7, c8, c9, c10, c11, c12, c13, c14, c15, c16, c17, c18, c19, c20, c21, c22, c23, c24, c25, c26, c27, c28, c29, c30] := by
  match l, h with
  | [c0, c1, c2, c3, c4, c5, c6, c7, c8, c9, c10, c11, c12, c13, c14, c15, c16, c17, c18, c19, c20, c21, c22, c23, c24, c25, c26, c27, c28, c29, c30], _ => exact ⟨c0, c1, c2, c3, c4, c5, c6, c7, c8, c9, c10, c11, c12, c13, c14, c15, c16, c17, c18, c19, c20, c21, c22, c23, c24, c25, c26, c27, c28, c29, c30, rfl⟩

set_option maxRecDepth 100000 in
theorem fl_trod {H : Type} {enc : TypeId × Value → H} {W : World} {base fuel : Nat} {sp : Nat → Bool} {held : Bool} {c0 c1 c2 c3 c4 c5 c6 : Value} {y : DataW H × List MemPlace}
    (h : DataW.trod enc Tryz.prog W base sp held fuel 23 [c0, c1, c2, c3, c4, c5, c6] = some y) : ∃ f : Fl, [c0, c1, c2, c3, c4, c5, c6] = (flC f).toList := by
  have _h1 : Tryz.prog.cellsOf 4 = 1 := by kernel_rfl
  have _h2 : Tryz.prog.cellsOf 3 = 1 := by kernel_rfl
  obtain ⟨xs, n, _, hx, _, hlen, hg⟩ := DataW.trod_struct Tryz.underlying23 h
  obtain ⟨y0, y1, y2, y3, y4, y5, y6, rfl⟩ := list7 xs hlen
  have g0 := hg 0 _ rfl
  have g1 := hg 1 _ rfl
  have g2 := hg 2 _ rfl
  have g3 := hg 3 _ rfl
  have g4 := hg 4 _ rfl
  have g5 := hg 5 _ rfl
  have g6 := hg 6 _ rfl
  obtain ⟨x0, e0, _⟩ := DataW.trod_bool Tryz.underlying4 g0
  obtain rfl : c0 = .bool x0 := (List.cons.inj (show [c0] = [.bool x0] from e0)).1
  obtain ⟨x1, e1, _⟩ := DataW.trod_bool Tryz.underlying4 g1
  obtain rfl : c1 = .bool x1 := (List.cons.inj (show [c1] = [.bool x1] from e1)).1
  obtain ⟨x2, e2, _, wf2⟩ := DataW.trod_int Tryz.underlying3 g2
  obtain rfl : c2 = .int .i64 x2 := (List.cons.inj (show [c2] = [.int .i64 x2] from e2)).1
  obtain ⟨x3, e3, _⟩ := DataW.trod_bool Tryz.underlying4 g3
  obtain rfl : c3 = .bool x3 := (List.cons.inj (show [c3] = [.bool x3] from e3)).1
  obtain ⟨x4, e4, _⟩ := DataW.trod_bool Tryz.underlying4 g4
  obtain rfl : c4 = .bool x4 := (List.cons.inj (show [c4] = [.bool x4] from e4)).1
  obtain ⟨x5, e5, _⟩ := DataW.trod_bool Tryz.underlying4 g5
  obtain rfl : c5 = .bool x5 := (List.cons.inj (show [c5] = [.bool x5] from e5)).1
  obtain ⟨x6, e6, _⟩ := DataW.trod_bool Tryz.underlying4 g6
  obtain rfl : c6 = .bool x6 := (List.cons.inj (show [c6] = [.bool x6] from e6)).1
  exact ⟨⟨x0, x1, x2, x3, x4, x5, x6⟩, rfl⟩

set_option maxRecDepth 100000 in
theorem open_fl {H : Type} {enc : TypeId × Value → H} {W : World} {base : Nat} {v : Value} {d : DataW H} {p : List MemPlace} (hval : Value.okWide Tryz.prog W .any base 23 v)
    (h : DataW.Trod enc Tryz.prog W 0 (fun _ => true) true 23 v d p) : ∃ f : Fl, v = .agg (flC f) := by
  have hcn : Tryz.prog.cellsOf 23 = 7 := by kernel_rfl
  obtain ⟨cs, rfl, hsz⟩ := okWide_struct Tryz.underlying23 hval
  rw [hcn] at hsz
  obtain ⟨l⟩ := cs
  obtain ⟨c0, c1, c2, c3, c4, c5, c6, rfl⟩ := list7 l hsz
  obtain ⟨fuel, hf⟩ := h
  obtain ⟨f, he⟩ := fl_trod (show DataW.trod enc Tryz.prog W 0 (fun _ => true) true fuel 23 [c0, c1, c2, c3, c4, c5, c6] = some _ by simpa [Value.cells] using hf)
  exact ⟨f, by rw [he]⟩

set_option maxRecDepth 100000 in
theorem open_bp {H : Type} {enc : TypeId × Value → H} {W : World} {base : Nat} {v : Value} {d : DataW H} {p : List MemPlace} (hval : Value.okWide Tryz.prog W .any base 31 v)
    (h : DataW.Trod enc Tryz.prog W 0 (fun _ => true) true 31 v d p) : ∃ b : Bp, byBp b ∧ rgBp b ∧ v = .agg (bpC b) := by
  have hcn : Tryz.prog.cellsOf 31 = 31 := by kernel_rfl
  have _h1 : Tryz.prog.cellsOf 27 = 8 := by kernel_rfl
  have _h3 : Tryz.prog.cellsOf 29 = 2 := by kernel_rfl
  have _h4 : Tryz.prog.cellsOf 23 = 7 := by kernel_rfl
  have _h2 : Tryz.prog.cellsOf 3 = 1 := by kernel_rfl
  obtain ⟨cs, rfl, hsz⟩ := okWide_struct Tryz.underlying31 hval
  rw [hcn] at hsz
  obtain ⟨l⟩ := cs
  obtain ⟨c0, c1, c2, c3, c4, c5, c6, c7, c8, c9, c10, c11, c12, c13, c14, c15, c16, c17, c18, c19, c20, c21, c22, c23, c24, c25, c26, c27, c28, c29, c30, rfl⟩ := list31 l hsz
  obtain ⟨fuel, hf⟩ := h
  have h : DataW.trod enc Tryz.prog W 0 (fun _ => true) true fuel 31 [c0, c1, c2, c3, c4, c5, c6, c7, c8, c9, c10, c11, c12, c13, c14, c15, c16, c17, c18, c19, c20, c21, c22, c23, c24, c25, c26, c27, c28, c29, c30] = some (d, p) := by simpa [Value.cells] using hf
  obtain ⟨xs, n, _, hx, _, hlen, hg⟩ := DataW.trod_struct Tryz.underlying31 h
  obtain ⟨y0, y1, y2, y3, y4, y5, y6, y7, y8, y9, rfl⟩ := list10 xs hlen
  have g0 := hg 0 _ rfl
  have g1 := hg 1 _ rfl
  have g2 := hg 2 _ rfl
  have g3 := hg 3 _ rfl
  have g4 := hg 4 _ rfl
  have g5 := hg 5 _ rfl
  have g6 := hg 6 _ rfl
  have g7 := hg 7 _ rfl
  have g8 := hg 8 _ rfl
  have g9 := hg 9 _ rfl
  obtain ⟨x0, e0, _, wf0⟩ := DataW.trod_int Tryz.underlying3 g0
  obtain rfl : c0 = .int .i64 x0 := (List.cons.inj (show [c0] = [.int .i64 x0] from e0)).1
  obtain ⟨fl, hfl⟩ := fl_trod g1
  simp only [flC, List.cons.injEq, and_true] at hfl
  obtain ⟨rfl, rfl, rfl, rfl, rfl, rfl, rfl⟩ := hfl
  obtain ⟨r, hr, rfl, rfl, rfl, rfl, rfl, rfl, rfl, rfl⟩ := br_trod g2
  obtain ⟨x3, e3, _, wf3⟩ := DataW.trod_int Tryz.underlying3 g3
  obtain rfl : c16 = .int .i64 x3 := (List.cons.inj (show [c16] = [.int .i64 x3] from e3)).1
  obtain ⟨t, ht, rfl, rfl, rfl, rfl, rfl, rfl, rfl, rfl⟩ := br_trod g4
  obtain ⟨p, q, rfl, rfl⟩ := pt_trod g5
  obtain ⟨x6, e6, _, wf6⟩ := DataW.trod_int Tryz.underlying3 g6
  obtain rfl : c27 = .int .i64 x6 := (List.cons.inj (show [c27] = [.int .i64 x6] from e6)).1
  obtain ⟨x7, e7, _, wf7⟩ := DataW.trod_int Tryz.underlying3 g7
  obtain rfl : c28 = .int .i64 x7 := (List.cons.inj (show [c28] = [.int .i64 x7] from e7)).1
  obtain ⟨x8, e8, _, wf8⟩ := DataW.trod_int Tryz.underlying3 g8
  obtain rfl : c29 = .int .i64 x8 := (List.cons.inj (show [c29] = [.int .i64 x8] from e8)).1
  obtain ⟨x9, e9, _, wf9⟩ := DataW.trod_int Tryz.underlying3 g9
  obtain rfl : c30 = .int .i64 x9 := (List.cons.inj (show [c30] = [.int .i64 x9] from e9)).1
  exact ⟨⟨x0, fl, r, x3, t, p, q, x6, x7, x8, x9⟩, ⟨hr, ht⟩, ⟨bounds_i64 wf3, bounds_i64 wf6, bounds_i64 wf7, bounds_i64 wf8, bounds_i64 wf9⟩, rfl⟩

end Go.Proofs.YtdjljnpbnhampaaGreatDoor

namespace Go.Proofs.YtdjljnpbnhampaaGreatDoor
open Go.ChangeShapes Go.WideShapes Go.ChangeAt Go.RowKit Go.Deep Go.Joins
set_option linter.unusedVariables false

theorem list6 {α : Type} (l : List α) (h : l.length = 6) : ∃ c0 c1 c2 c3 c4 c5, l = [c0, c1, c2, c3, c4, c5] := by
  match l, h with
  | [c0, c1, c2, c3, c4, c5], _ => exact ⟨c0, c1, c2, c3, c4, c5, rfl⟩

theorem list14 {α : Type} (l : List α) (h : l.length = 14) : ∃ c0 c1 c2 c3 c4 c5 c6 c7 c8 c9 c10 c11 c12 c13, l = [c0, c1, c2, c3, c4, c5, c6, c7, c8, c9, c10, c11, c12, c13] := by
  match l, h with
  | [c0, c1, c2, c3, c4, c5, c6, c7, c8, c9, c10, c11, c12, c13], _ => exact ⟨c0, c1, c2, c3, c4, c5, c6, c7, c8, c9, c10, c11, c12, c13, rfl⟩

theorem list19 {α : Type} (l : List α) (h : l.length = 19) : ∃ c0 c1 c2 c3 c4 c5 c6 c7 c8 c9 c10 c11 c12 c13 c14 c15 c16 c17 c18, l = [c0, c1, c2, c3, c4, c5, c6, c7, c8, c9, c10, c11, c12, c13, c14, c15, c16, c17, c18] := by
  match l, h with
  | [c0, c1, c2, c3, c4, c5, c6, c7, c8, c9, c10, c11, c12, c13, c14, c15, c16, c17, c18], _ => exact ⟨c0, c1, c2, c3, c4, c5, c6, c7, c8, c9, c10, c11, c12, c13, c14, c15, c16, c17, c18, rfl⟩

theorem list45 {α : Type} (l : List α) (h : l.length = 45) : ∃ c0 c1 c2 c3 c4 c5 c6 c7 c8 c9 c10 c11 c12 c13 c14 c15 c16 c17 c18 c19 c20 c21 c22 c23 c24 c25 c26 c27 c28 c29 c30 c31 c32 c33 c34 c35 c36 c37 c38 c39 c40 c41 c42 c43 c44, l = [c0, c1, c2, c3, c4, c5, c6, c7, c8, c9, c10, c11, c12, c13, c14, c15, c16, c17, c18, c19, c20, c21, c22, c23, c24, c25, c26, c27, c28, c29, c30, c31, c32, c33, c34, c35, c36, c37, c38, c39, c40, c41, c42, c43, c44] := by
  obtain ⟨c0, c1, c2, c3, c4, c5, c6, c7, c8, c9, c10, c11, c12, c13, c14, c15, c16, c17, c18, c19, c20, c21, c22, c23, c24, c25, c26, c27, c28, c29, c30, h1⟩ := list31 (l.take 31) (by rw [List.length_take]; omega)
  obtain ⟨c31, c32, c33, c34, c35, c36, c37, c38, c39, c40, c41, c42, c43, c44, h2⟩ := list14 (l.drop 31) (by rw [List.length_drop]; omega)
  exact ⟨c0, c1, c2, c3, c4, c5, c6, c7, c8, c9, c10, c11, c12, c13, c14, c15, c16, c17, c18, c19, c20, c21, c22, c23, c24, c25, c26, c27, c28, c29, c30, c31, c32, c33, c34, c35, c36, c37, c38, c39, c40, c41, c42, c43, c44, by rw [← List.take_append_drop 31 l, h1, h2]; rfl⟩

set_option maxRecDepth 100000 in
theorem bp_trod {H : Type} {enc : TypeId × Value → H} {W : World} {base fuel : Nat} {sp : Nat → Bool} {held : Bool} {c0 c1 c2 c3 c4 c5 c6 c7 c8 c9 c10 c11 c12 c13 c14 c15 c16 c17 c18 c19 c20 c21 c22 c23 c24 c25 c26 c27 c28 c29 c30 : Value} {y : DataW H × List MemPlace}
    (h : DataW.trod enc Tryz.prog W base sp held fuel 31 [c0, c1, c2, c3, c4, c5, c6, c7, c8, c9, c10, c11, c12, c13, c14, c15, c16, c17, c18, c19, c20, c21, c22, c23, c24, c25, c26, c27, c28, c29, c30] = some y) : ∃ b : Bp, byBp b ∧ rgBp b ∧ [c0, c1, c2, c3, c4, c5, c6, c7, c8, c9, c10, c11, c12, c13, c14, c15, c16, c17, c18, c19, c20, c21, c22, c23, c24, c25, c26, c27, c28, c29, c30] = (bpC b).toList := by
  have _h1 : Tryz.prog.cellsOf 27 = 8 := by kernel_rfl
  have _h3 : Tryz.prog.cellsOf 29 = 2 := by kernel_rfl
  have _h4 : Tryz.prog.cellsOf 23 = 7 := by kernel_rfl
  have _h2 : Tryz.prog.cellsOf 3 = 1 := by kernel_rfl
  obtain ⟨xs, n, _, hx, _, hlen, hg⟩ := DataW.trod_struct Tryz.underlying31 h
  obtain ⟨y0, y1, y2, y3, y4, y5, y6, y7, y8, y9, rfl⟩ := list10 xs hlen
  have g0 := hg 0 _ rfl
  have g1 := hg 1 _ rfl
  have g2 := hg 2 _ rfl
  have g3 := hg 3 _ rfl
  have g4 := hg 4 _ rfl
  have g5 := hg 5 _ rfl
  have g6 := hg 6 _ rfl
  have g7 := hg 7 _ rfl
  have g8 := hg 8 _ rfl
  have g9 := hg 9 _ rfl
  obtain ⟨x0, e0, _, wf0⟩ := DataW.trod_int Tryz.underlying3 g0
  obtain rfl : c0 = .int .i64 x0 := (List.cons.inj (show [c0] = [.int .i64 x0] from e0)).1
  obtain ⟨fl, hfl⟩ := fl_trod g1
  simp only [flC, List.cons.injEq, and_true] at hfl
  obtain ⟨rfl, rfl, rfl, rfl, rfl, rfl, rfl⟩ := hfl
  obtain ⟨r, hr, rfl, rfl, rfl, rfl, rfl, rfl, rfl, rfl⟩ := br_trod g2
  obtain ⟨x3, e3, _, wf3⟩ := DataW.trod_int Tryz.underlying3 g3
  obtain rfl : c16 = .int .i64 x3 := (List.cons.inj (show [c16] = [.int .i64 x3] from e3)).1
  obtain ⟨t, ht, rfl, rfl, rfl, rfl, rfl, rfl, rfl, rfl⟩ := br_trod g4
  obtain ⟨p, q, rfl, rfl⟩ := pt_trod g5
  obtain ⟨x6, e6, _, wf6⟩ := DataW.trod_int Tryz.underlying3 g6
  obtain rfl : c27 = .int .i64 x6 := (List.cons.inj (show [c27] = [.int .i64 x6] from e6)).1
  obtain ⟨x7, e7, _, wf7⟩ := DataW.trod_int Tryz.underlying3 g7
  obtain rfl : c28 = .int .i64 x7 := (List.cons.inj (show [c28] = [.int .i64 x7] from e7)).1
  obtain ⟨x8, e8, _, wf8⟩ := DataW.trod_int Tryz.underlying3 g8
  obtain rfl : c29 = .int .i64 x8 := (List.cons.inj (show [c29] = [.int .i64 x8] from e8)).1
  obtain ⟨x9, e9, _, wf9⟩ := DataW.trod_int Tryz.underlying3 g9
  obtain rfl : c30 = .int .i64 x9 := (List.cons.inj (show [c30] = [.int .i64 x9] from e9)).1
  exact ⟨⟨x0, fl, r, x3, t, p, q, x6, x7, x8, x9⟩, ⟨hr, ht⟩, ⟨bounds_i64 wf3, bounds_i64 wf6, bounds_i64 wf7, bounds_i64 wf8, bounds_i64 wf9⟩, rfl⟩

set_option maxRecDepth 100000 in
theorem in_trod {H : Type} {enc : TypeId × Value → H} {W : World} {base fuel : Nat} {sp : Nat → Bool} {held : Bool} {c0 c1 c2 c3 c4 c5 c6 c7 c8 c9 c10 c11 c12 c13 c14 c15 c16 c17 c18 : Value} {y : DataW H × List MemPlace}
    (h : DataW.trod enc Tryz.prog W base sp held fuel 49 [c0, c1, c2, c3, c4, c5, c6, c7, c8, c9, c10, c11, c12, c13, c14, c15, c16, c17, c18] = some y) : ∃ x : Ins, (byIns x ∧ rgIn x) ∧ [c0, c1, c2, c3, c4, c5, c6, c7, c8, c9, c10, c11, c12, c13, c14, c15, c16, c17, c18] = (inC x).toList := by
  have _h1 : Tryz.prog.cellsOf 27 = 8 := by kernel_rfl
  have _h4 : Tryz.prog.cellsOf 23 = 7 := by kernel_rfl
  have _h2 : Tryz.prog.cellsOf 3 = 1 := by kernel_rfl
  obtain ⟨xs, n, _, hx, _, hlen, hg⟩ := DataW.trod_struct Tryz.underlying49 h
  obtain ⟨y0, y1, y2, y3, y4, y5, rfl⟩ := list6 xs hlen
  have g0 := hg 0 _ rfl
  have g1 := hg 1 _ rfl
  have g2 := hg 2 _ rfl
  have g3 := hg 3 _ rfl
  have g4 := hg 4 _ rfl
  have g5 := hg 5 _ rfl
  obtain ⟨fl, hfl⟩ := fl_trod g0
  simp only [flC, List.cons.injEq, and_true] at hfl
  obtain ⟨rfl, rfl, rfl, rfl, rfl, rfl, rfl⟩ := hfl
  obtain ⟨r, hr, rfl, rfl, rfl, rfl, rfl, rfl, rfl, rfl⟩ := br_trod g1
  obtain ⟨x2, e2, _, wf2⟩ := DataW.trod_int Tryz.underlying3 g2
  obtain rfl : c15 = .int .i64 x2 := (List.cons.inj (show [c15] = [.int .i64 x2] from e2)).1
  obtain ⟨x3, e3, _, wf3⟩ := DataW.trod_int Tryz.underlying3 g3
  obtain rfl : c16 = .int .i64 x3 := (List.cons.inj (show [c16] = [.int .i64 x3] from e3)).1
  obtain ⟨x4, e4, _, wf4⟩ := DataW.trod_int Tryz.underlying3 g4
  obtain rfl : c17 = .int .i64 x4 := (List.cons.inj (show [c17] = [.int .i64 x4] from e4)).1
  obtain ⟨x5, e5, _, wf5⟩ := DataW.trod_int Tryz.underlying3 g5
  obtain rfl : c18 = .int .i64 x5 := (List.cons.inj (show [c18] = [.int .i64 x5] from e5)).1
  exact ⟨⟨fl, r, x2, x3, x4, x5⟩, ⟨hr, bounds_i64 wf2, bounds_i64 wf5⟩, rfl⟩

/- A cell that reads as a list of instances. -/

set_option maxRecDepth 100000 in
theorem ins_cell {H : Type} {enc : TypeId × Value → H} {W : World} {fuel : Nat} {z0 : Value} {y : DataW H × List MemPlace}
    (hf : DataW.trod enc Tryz.prog W 0 (fun _ => true) true fuel 32 [z0] = some y) : ∃ (a : Option Addr) (c : Nat) (l : List Ins), z0 = .slice a l.length c ∧ l.length ≤ c ∧ c ≤ maxLen ∧ InIn W a l ∧ ∀ x ∈ l, byIns x ∧ rgIn x := by
  have hs : Tryz.prog.underlying 32 = some (.slice 49) := by kernel_rfl
  have hc3 : Tryz.prog.cellsOf 49 = 19 := by kernel_rfl
  rcases open_slice hs hf with ⟨hc, hx⟩ | ⟨b, n, c, m, k, D, Pl, hc, hb, hl, hm, hmm, hx, hall⟩
  · simp at hc
    subst hc
    exact ⟨none, 0, [], rfl, Nat.le_refl _, by decide, Or.inl rfl, by simp⟩
  · simp at hc
    subst hc
    have hlm : n ≤ m := by rw [hmm]; split <;> omega
    have each : ∀ i, i < n → ∃ t : Ins, (byIns t ∧ rgIn t) ∧ ∀ (j : Nat) (x : Value), (inC t)[j]? = some x → W.cell? (b.add (i * 19 + j)) = some x := by
      intro i hi
      obtain ⟨cs', h1, h2⟩ := hall i (by omega)
      rw [hc3] at h1
      obtain ⟨_, hlen, hcell⟩ := World.cells?_some h1
      obtain ⟨c0, c1, c2, c3, c4, c5, c6, c7, c8, c9, c10, c11, c12, c13, c14, c15, c16, c17, c18, rfl⟩ := list19 cs' hlen
      obtain ⟨t, ht, he⟩ := in_trod h2
      refine ⟨t, ht, fun j x hj => ?_⟩
      have hj2 : j < 19 := (Array.getElem?_eq_some_iff.1 hj).1
      have g := hcell j (by omega)
      rw [add_add] at g
      rw [g]
      have e2 : ([c0, c1, c2, c3, c4, c5, c6, c7, c8, c9, c10, c11, c12, c13, c14, c15, c16, c17, c18] : List Value)[j]? = some x := by rw [he]; simpa using hj
      exact e2
    obtain ⟨z, hz⟩ := choose_lt each
    obtain ⟨bb, bo, bs⟩ := b
    rcases Nat.eq_zero_or_pos n with rfl | q0
    · exact ⟨some ⟨bb, bo, bs⟩, c, [], rfl, hl, hm, Or.inl rfl, by simp⟩
    have h0 := (hz 0 q0).2 0 _ rfl
    have hspot : bs = none := by simpa [Addr.add] using World.cell?_spot h0
    subst hspot
    refine ⟨some ⟨bb, bo, none⟩, c, (List.range n).map z, by simp, by simpa using hl, hm, Or.inr ⟨bb, bo, rfl, ?_, fun j hj k x hx => ?_⟩, ?_⟩
    · have := World.block_lt_of_cell? W _ h0
      simpa [Addr.add] using this
    · have hj' : j < n := by simpa using hj
      simp only [List.getElem_map, List.getElem_range] at hx
      have e0 := (hz j hj').2 k x hx
      rw [add_plain] at e0
      rw [Nat.add_assoc]
      exact e0
    · intro v hv
      obtain ⟨j, hj, rfl⟩ := List.mem_map.1 hv
      exact (hz j (List.mem_range.1 hj)).1

theorem size_of {H : Type} {P : Program} {ts : List TypeId} {ds : List (DataW H)} (h : (DataW.weightsEach P ts ds).all (· ≤ reachBytes) = true) {j : Nat} {t : TypeId} {s : ByteArray} (ht : ts[j]? = some t) (hd : ds[j]? = some (.lit (.string s.data.toList))) : s.size ≤ 140737488355328 := by
  have h1 := sized_string h ht hd
  have h2 := reachBytes_lt
  have e : s.data.toList.length = s.size := by simp
  omega

theorem weights_of {H : Type} {P : Program} {ts : List TypeId} {ds : List (DataW H)} (h : (DataW.weightsEach P ts ds).all (· ≤ reachBytes) = true) {j : Nat} {t : TypeId} {d : DataW H} (ht : ts[j]? = some t) (hd : ds[j]? = some d) : ∀ n ∈ d.weights P t, n ≤ reachBytes := fun m hm => by
  have := List.all_eq_true.1 h m (DataW.weights_mem_each ht hd m hm)
  simpa using this

/-- What an argument's numbers are. -/
def ArgMs (m : Ms) (l : List Ins) : Prop := (byBp m.base ∧ byB m.br ∧ ∀ x ∈ l, byIns x) ∧ rgBp m.base ∧ rgMs m ∧ ∀ x ∈ l, rgIn x

set_option maxRecDepth 100000 in
theorem open_ms {H : Type} {enc : TypeId × Value → H} {W : World} {base : Nat} {v : Value} {d : DataW H} {p : List MemPlace} (hval : Value.okWide Tryz.prog W .any base 34 v)
    (h : DataW.Trod enc Tryz.prog W 0 (fun _ => true) true 34 v d p) : ∃ (m : Ms) (a : Option Addr) (c : Nat) (l : List Ins), (ArgMs m l ∧ InIn W a l ∧ l.length ≤ c ∧ c ≤ maxLen ∧ ((∀ n ∈ d.weights Tryz.prog 34, n ≤ reachBytes) → m.name.size ≤ 140737488355328 ∧ m.dig.size ≤ 140737488355328)) ∧ v = .agg (msC m (.slice a l.length c)) := by
  have hcn : Tryz.prog.cellsOf 34 = 45 := by kernel_rfl
  have _h0 : Tryz.prog.cellsOf 31 = 31 := by kernel_rfl
  have _h1 : Tryz.prog.cellsOf 27 = 8 := by kernel_rfl
  have _h2 : Tryz.prog.cellsOf 3 = 1 := by kernel_rfl
  have _h3 : Tryz.prog.cellsOf 9 = 1 := by kernel_rfl
  have _h4 : Tryz.prog.cellsOf 32 = 1 := by kernel_rfl
  obtain ⟨cs, rfl, hsz⟩ := okWide_struct Tryz.underlying34 hval
  rw [hcn] at hsz
  obtain ⟨l⟩ := cs
  obtain ⟨c0, c1, c2, c3, c4, c5, c6, c7, c8, c9, c10, c11, c12, c13, c14, c15, c16, c17, c18, c19, c20, c21, c22, c23, c24, c25, c26, c27, c28, c29, c30, c31, c32, c33, c34, c35, c36, c37, c38, c39, c40, c41, c42, c43, c44, rfl⟩ := list45 l hsz
  obtain ⟨fuel, hf⟩ := h
  have h : DataW.trod enc Tryz.prog W 0 (fun _ => true) true fuel 34 [c0, c1, c2, c3, c4, c5, c6, c7, c8, c9, c10, c11, c12, c13, c14, c15, c16, c17, c18, c19, c20, c21, c22, c23, c24, c25, c26, c27, c28, c29, c30, c31, c32, c33, c34, c35, c36, c37, c38, c39, c40, c41, c42, c43, c44] = some (d, p) := by simpa [Value.cells] using hf
  obtain ⟨xs, n, _, hx, _, hlen, hg⟩ := DataW.trod_struct Tryz.underlying34 h
  obtain ⟨y0, y1, y2, y3, y4, y5, y6, y7, rfl⟩ := list8 xs hlen
  have g0 := hg 0 _ rfl
  have g1 := hg 1 _ rfl
  have g2 := hg 2 _ rfl
  have g3 := hg 3 _ rfl
  have g4 := hg 4 _ rfl
  have g5 := hg 5 _ rfl
  have g6 := hg 6 _ rfl
  have g7 := hg 7 _ rfl
  obtain ⟨bb, hby, hrg, hbb⟩ := bp_trod g0
  simp only [bpC, List.cons.injEq, and_true] at hbb
  obtain ⟨rfl, rfl, rfl, rfl, rfl, rfl, rfl, rfl, rfl, rfl, rfl, rfl, rfl, rfl, rfl, rfl, rfl, rfl, rfl, rfl, rfl, rfl, rfl, rfl, rfl, rfl, rfl, rfl, rfl, rfl, rfl⟩ := hbb
  obtain ⟨x1, e1, q1, sb1⟩ := DataW.trod_string Tryz.underlying9 g1
  obtain rfl : c31 = .string x1 := (List.cons.inj (show [c31] = [.string x1] from e1)).1
  obtain ⟨x2, e2, _, wf2⟩ := DataW.trod_int Tryz.underlying3 g2
  obtain rfl : c32 = .int .i64 x2 := (List.cons.inj (show [c32] = [.int .i64 x2] from e2)).1
  obtain ⟨x3, e3, q3, sb3⟩ := DataW.trod_string Tryz.underlying9 g3
  obtain rfl : c33 = .string x3 := (List.cons.inj (show [c33] = [.string x3] from e3)).1
  obtain ⟨x4, e4, _, wf4⟩ := DataW.trod_int Tryz.underlying3 g4
  obtain rfl : c34 = .int .i64 x4 := (List.cons.inj (show [c34] = [.int .i64 x4] from e4)).1
  obtain ⟨r, hr, rfl, rfl, rfl, rfl, rfl, rfl, rfl, rfl⟩ := br_trod g5
  obtain ⟨x6, e6, _, wf6⟩ := DataW.trod_int Tryz.underlying3 g6
  obtain rfl : c43 = .int .i64 x6 := (List.cons.inj (show [c43] = [.int .i64 x6] from e6)).1
  obtain ⟨a, c, li, rfl, hlc, hcm, hin, hall⟩ := ins_cell g7
  refine ⟨⟨bb, x1, x2, x3, x4, r, x6⟩, a, c, li, ⟨⟨⟨hby, hr, fun x hx => (hall x hx).1⟩, hrg, ⟨bounds_i64 wf2, bounds_i64 wf4, bounds_i64 wf6⟩, fun x hx => (hall x hx).2⟩, hin, hlc, hcm, fun hw => ?_⟩, rfl⟩
  simp only [Prod.mk.injEq] at hx
  have hd : d = .agg [y0.1, y1.1, y2.1, y3.1, y4.1, y5.1, y6.1, y7.1] := hx.1
  rw [hd] at hw
  have hW : DataW.weights Tryz.prog 34 (.agg [y0.1, y1.1, y2.1, y3.1, y4.1, y5.1, y6.1, y7.1]) = DataW.weightsEach Tryz.prog [31, 9, 3, 9, 3, 27, 3, 32] [y0.1, y1.1, y2.1, y3.1, y4.1, y5.1, y6.1, y7.1] := by
    rw [DataW.weights, Tryz.underlying34]
    rfl
  rw [hW] at hw
  have h1 : y1.1 = .lit (.string x1.data.toList) := by rw [q1]
  have h3 : y3.1 = .lit (.string x3.data.toList) := by rw [q3]
  have w1 := hw x1.data.toList.length (DataW.weights_mem_each (j := 1) rfl rfl _ (by rw [h1]; simp [DataW.weights]))
  have w3 := hw x3.data.toList.length (DataW.weights_mem_each (j := 3) rfl rfl _ (by rw [h3]; simp [DataW.weights]))
  have l1 : x1.data.toList.length = x1.size := by simp
  have l3 : x3.data.toList.length = x3.size := by simp
  have := reachBytes_lt
  exact ⟨by show x1.size ≤ _; omega, by show x3.size ≤ _; omega⟩

end Go.Proofs.YtdjljnpbnhampaaGreatDoor

namespace Go.Proofs.YtdjljnpbnhampaaGreatDoor.mstpBack
open Go.RowKit
attribute [local go_sem ↓] Go.wp_at_zero Go.wp_at_succ
set_option linter.unusedSimpArgs false
set_option linter.unusedVariables false
set_option maxRecDepth 100000

set_option maxHeartbeats 6400000 in
theorem walk (m : Ms) (a : Option Addr) (c : Nat) (l : List Ins) (hA : ArgMs m l) (t : ByteArray) (w : World) (h : InIn w a l) (hn : m.name.size ≤ 140737488355328) (hd : m.dig.size ≤ 140737488355328) (ht : t.size ≤ 140737488355328) (hE : HasErr w) :
    Calls Tryz.prog 3 #[.agg (msC m (.slice a l.length c)), .string t] w fun e w' => e = .returned (.bool true) ∧ Below w.heap.size w w' := by
  have hne : ∀ w : World, (binOp BinOp.eql 37 .nilIface .nilIface).run Tryz.prog w = .ok (.bool true) w := fun _ => by kernel_rfl
  obtain ⟨X, hX⟩ : ∃ X : Int, (m.name.size : Int) + (m.dig.size : Int) = X := ⟨_, rfl⟩
  have hX1 : IntKind.i64.wrap ((m.name.size : Int) + (m.dig.size : Int)) = X := by rw [IntKind.wrap_i64] <;> omega
  obtain ⟨Y, hY⟩ : ∃ Y : Int, X + (t.size : Int) = Y := ⟨_, rfl⟩
  have hY1 : IntKind.i64.wrap (X + (t.size : Int)) = Y := by rw [IntKind.wrap_i64] <;> omega
  by_cases hl : 80 < l.length
  · have hgt : decide ((80 : Int) < (l.length : Int)) = true := decide_eq_true (by omega)
    clear hX hY
    go_enter Tryz.func3, Tryz.ntmps3
    go_upto_region 1 with (refine box_blk 34 (msC m (.slice a l.length c)) (by rfl) (by rfl) rfl ?_; intro w1 HA1 B1)
    go_wp2_with fail
    refine (treed_any _).mono ?_
    rintro e w2 ⟨rfl, k2⟩
    have HA2 := HA1.kept k2
    have B2 := B1.trans (k2.mono B1.size)
    clear HA1 B1 k2
    have c44 := HA2.cv 44 (.slice a l.length c) rfl
    have c31 := HA2.cv 31 (.string m.name) rfl
    have c33 := HA2.cv 33 (.string m.dig) rfl
    go_wp2
    go_ret
    exact ⟨rfl, B2⟩
  have hgt : decide ((80 : Int) < (l.length : Int)) = false := decide_eq_false (by omega)
  by_cases hy : 300 < Y
  · have hg2 : decide ((300 : Int) < Y) = true := decide_eq_true hy
    clear hX hY
    go_enter Tryz.func3, Tryz.ntmps3
    go_upto_region 1 with (refine box_blk 34 (msC m (.slice a l.length c)) (by rfl) (by rfl) rfl ?_; intro w1 HA1 B1)
    go_wp2_with fail
    refine (treed_any _).mono ?_
    rintro e w2 ⟨rfl, k2⟩
    have HA2 := HA1.kept k2
    have B2 := B1.trans (k2.mono B1.size)
    clear HA1 B1 k2
    have c44 := HA2.cv 44 (.slice a l.length c) rfl
    have c31 := HA2.cv 31 (.string m.name) rfl
    have c33 := HA2.cv 33 (.string m.dig) rfl
    go_wp2
    go_ret
    exact ⟨rfl, B2⟩
  have hg2 : decide ((300 : Int) < Y) = false := decide_eq_false hy
  have hsn : m.name.size ≤ 300 := by omega
  have hsd : m.dig.size ≤ 300 := by omega
  have hst : t.size ≤ 300 := by omega
  have hll : l.length ≤ 80 := by omega
  clear hX hY hn hd ht hy hl
  cases hok : okMs m l with
  | false =>
    have HW := Lib.hid (fun (W : World) (h : InIn W a l) => msWrite_no m a c l W h (by omega) hA.2 (by omega) (by omega) hok)
    have HR := Lib.hid (fun (W : World) (h : InIn W a l) => by have q := msRight_any m a c l W h (by omega) hA.2 (by omega) (by omega); rw [hok] at q; exact q)
    go_enter Tryz.func3, Tryz.ntmps3
    go_upto_region 1 with (refine box_blk 34 (msC m (.slice a l.length c)) (by rfl) (by rfl) rfl ?_; intro w1 HA1 B1)
    go_wp2_with fail
    refine (treed_any _).mono ?_
    rintro e w2 ⟨rfl, k2⟩
    have HA2 := HA1.kept k2
    have B2 := B1.trans (k2.mono B1.size)
    clear HA1 B1 k2
    have c44 := HA2.cv 44 (.slice a l.length c) rfl
    have c31 := HA2.cv 31 (.string m.name) rfl
    have c33 := HA2.cv 33 (.string m.dig) rfl
    have I2 := h.below B2
    go_wp2_with (refine load_blk (k := 0) 34 (msC m (.slice a l.length c)) (by rfl) rfl rfl HA2 (by kernel_rfl) (by kernel_rfl) rfl ?_)
    refine (HW.out _ I2).mono ?_
    rintro e w3 ⟨rfl, k3⟩
    have HA3 := HA2.kept k3
    have I3 := I2.below k3
    have B3 := B2.trans (k3.mono B2.size)
    clear HA2 I2 B2 k3 c44 c31 c33
    go_wp2_with (refine load_blk (k := 0) 34 (msC m (.slice a l.length c)) (by rfl) rfl rfl HA3 (by kernel_rfl) (by kernel_rfl) rfl ?_)
    refine (HR.out _ I3).mono ?_
    rintro e w4 ⟨rfl, k4⟩
    have B4 := B3.trans (k4.mono B3.size)
    go_wp2_with fail
    refine (tell_errno 1 _ (hE.below B4)).mono ?_
    rintro e w5 ⟨rfl, k5⟩
    go_wp2
    go_ret
    exact ⟨rfl, B4.trans (k5.mono B4.size)⟩
  | true =>
    obtain ⟨hwl, h64⟩ := okMs_len hok
    have hx := hA.1
    obtain ⟨u, rfl⟩ : ∃ u : List UInt8, t = ⟨u.toArray⟩ := ⟨t.data.toList, rfl⟩
    have hu : u.length ≤ 300 := by simpa [ByteArray.size] using hst
    have hY2 : IntKind.i64.wrap (X + (u.length : Int)) = Y := hY1
    have HW := Lib.hid (fun (W : World) (h : InIn W a l) => msWrite_yes m a c l W h hok hx)
    have HR := Lib.hid (fun (W : World) (h : InIn W a l) => by have q := msRight_any m a c l W h (by omega) hA.2 (by omega) (by omega); rw [hok] at q; exact q)
    have HB := Lib.hid (fun W => msRead_back m l u hok hx (by rw [List.length_append]; omega) W)
    have HSm := Lib.hid (fun (a1 a2 : Option Addr) (c1 c2 : Nat) (W : World) (h1 : InIn W a1 l) (h2 : InIn W a2 l) => sameMs_any m l a1 a2 c1 c2 W h1 h2 (by omega))
    have m1 : IntKind.i64.wrap (16 * (l.length : Int)) = 16 * (l.length : Int) := by rw [IntKind.wrap_i64] <;> omega
    have m2 : IntKind.i64.wrap (102 + 16 * (l.length : Int)) = 102 + 16 * (l.length : Int) := by rw [IntKind.wrap_i64] <;> omega
    generalize writeM m l = y at *
    have p1 : ∀ W, (Op.stringOp .add ⟨y.toArray⟩ ⟨u.toArray⟩).run Tryz.prog W = .ok (.string ⟨(y ++ u).toArray⟩) W := fun W => run_string_add_lists W y u (by omega) (by omega)
    have hq1 : ((y.length : Int) == 102 + 16 * (l.length : Int)) = true := by rw [beq_iff_eq]; omega
    generalize y ++ u = z at *
    clear hok hx
    go_enter Tryz.func3, Tryz.ntmps3
    go_upto_region 1 with (refine box_blk 34 (msC m (.slice a l.length c)) (by rfl) (by rfl) rfl ?_; intro w1 HA1 B1)
    go_wp2_with fail
    refine (treed_any _).mono ?_
    rintro e w2 ⟨rfl, k2⟩
    have HA2 := HA1.kept k2
    have B2 := B1.trans (k2.mono B1.size)
    clear HA1 B1 k2
    have c44 := HA2.cv 44 (.slice a l.length c) rfl
    have c31 := HA2.cv 31 (.string m.name) rfl
    have c33 := HA2.cv 33 (.string m.dig) rfl
    have I2 := h.below B2
    go_wp2_with (refine load_blk (k := 0) 34 (msC m (.slice a l.length c)) (by rfl) rfl rfl HA2 (by kernel_rfl) (by kernel_rfl) rfl ?_)
    refine (HW.out _ I2).mono ?_
    rintro e w3 ⟨rfl, k3⟩
    have HA3 := HA2.kept k3
    have I3 := I2.below k3
    have B3 := B2.trans (k3.mono B2.size)
    clear HA2 I2 B2 k3 c44 c31 c33
    go_wp2_with (refine load_blk (k := 0) 34 (msC m (.slice a l.length c)) (by rfl) rfl rfl HA3 (by kernel_rfl) (by kernel_rfl) rfl ?_)
    refine (HR.out _ I3).mono ?_
    rintro e w4 ⟨rfl, k4⟩
    have HA4 := HA3.kept k4
    have I4 := I3.below k4
    have B4 := B3.trans (k4.mono B3.size)
    clear HA3 I3 B3 k4
    go_wp2_with fail
    refine (HB.out _).mono ?_
    rintro e w6 ⟨⟨a6, c6, rfl, J6⟩, k6⟩
    have HA6 := HA4.kept k6
    have I6 := I4.below k6
    have B6 := B4.trans (k6.mono B4.size)
    clear HA4 I4 B4 k6
    go_upto_region 9 with (first
      | (refine alloc_blk 34 (msC zMs (.slice none 0 0)) (by rfl) rfl Tryz.msZero ?_)
      | (refine store_blk (k := 0) 34 (.agg (msC m (.slice a6 l.length c6))) (msC m (.slice a6 l.length c6)) (by rfl) rfl rfl rfl (Blk.new w6 _ _) (by kernel_rfl) (show (45 : Nat) ≤ 45 from Nat.le_refl 45) (by rfl) (st_whole _ _ rfl) ?_; intro w7 HN7 b7 g7))
    (try simp only [Act.put, List.setIfInBounds_toArray, List.set_cons_zero, List.set_cons_succ])
    have b67 : Below w6.heap.size w6 w7 := ((Below.refl _ _).alloc (Nat.le_refl _) _).trans b7
    have HA7 := HA6.kept b67
    have I7 := I6.below b67
    have J7 := J6.below b67
    have B7 := B6.trans (b67.mono B6.size)
    clear HA6 I6 J6 B6 b7 g7 b67
    generalize w6.heap.size = U at *
    go_wp2_with (first | (refine load_blk (k := 0) 34 (msC m (.slice a l.length c)) (by rfl) rfl rfl HA7 (by kernel_rfl) (by kernel_rfl) rfl ?_) | (refine load_blk (k := 0) 34 (msC m (.slice a6 l.length c6)) (by rfl) rfl rfl HN7 (by kernel_rfl) (by kernel_rfl) rfl ?_))
    refine (HSm.out _ _ _ _ _ I7 J7).mono ?_
    rintro e w8 ⟨rfl, k8⟩
    have HA8 := HA7.kept k8
    have B8 := B7.trans (k8.mono B7.size)
    have c44 := HA8.cv 44 (.slice a l.length c) rfl
    go_wp2
    go_ret
    exact ⟨rfl, B8⟩

end Go.Proofs.YtdjljnpbnhampaaGreatDoor.mstpBack

namespace Go.Proofs.YtdjljnpbnhampaaGreatDoor
open Go.RowKit Go.WideShapes Go.ChangeShapes

/-- The specification is met: one result, which reads as told; the arguments and the named variables read as they did; old memory is as it was. -/
theorem met_below {P : Program} {H : Type} {enc : TypeId × Value → H} {f : Func} {s : ChangeSpec} {apart fresh handsOn again : Bool} {W W' : World} {args : Array Value} {v : Value} {ds gs : List (DataW H)} {places : List MemPlace}
    (whole : DataW.Whole enc P f.params.toList s.vars apart W args.toList ds gs places)
    (results : ∀ (b : Nat) (sp : Nat → Bool) (hd : Bool), DataW.TrodAll enc P W' b sp hd f.resultTypes.toList (v.resultList f.resultTypes.size) (s.fn H (ds ++ gs)).results [])
    (arguments : ∀ sp : Nat → Bool, (∀ p ∈ places, sp p.block = true) → DataW.TrodAll enc P W' 0 sp true f.params.toList args.toList (s.fn H (ds ++ gs)).args places)
    (variables : ∀ sp : Nat → Bool, DataW.TrodVars enc P W' sp s.vars (s.fn H (ds ++ gs)).vars [])
    (below : Below W.heap.size W W')
    (formed : ∀ (j : Nat) (t : TypeId) (r : Value), f.resultTypes[j]? = some t → (v.resultList f.resultTypes.size)[j]? = some r → Value.okWide P W' .any 0 t r) :
    s.post enc P f apart fresh handsOn again W args v W' := by
  have old : ∀ p ∈ places, p.block < W.heap.size := fun p hp => whole.lt p hp
  have oldB : ∀ p ∈ places, (fun b => decide (b < W.heap.size)) p.block = true := fun p hp => decide_eq_true (old p hp)
  obtain ⟨_, _, _, _, _, unfrozen, once⟩ := id whole
  refine ⟨ds, gs, places, [], places, [], whole, results _ _ _, arguments _ oldB, variables _, below.frame _, fun _ => ⟨formed, _, _, ([] ++ places) ++ [], ⟨[] ++ places, [], trodAll_append (arguments _ fun _ _ => rfl) (results _ _ _), variables _, rfl, fun b off hp => ?_, fun ha => by simpa using once ha⟩, fun p hp _ => by simpa using hp⟩⟩
  have hin : MemPlace.cell b off ∈ places := by simpa using hp
  exact (below.frozen (p := ⟨b, off, none⟩) (old _ hin)).trans (unfrozen b off hin)

end Go.Proofs.YtdjljnpbnhampaaGreatDoor

namespace Go.Proofs.YtdjljnpbnhampaaGreatDoor
open Go.ChangeShapes Go.WideShapes Go.ChangeAt Go.RowKit

theorem own : ownKnob Tryz.prog.godebug = none := by kernel_rfl

theorem Tryz.gErr : Tryz.prog.globalNamed "errors.errorType" = some 0 := by kernel_rfl

theorem Tryz.rtRow : (Tryz.prog.cutTypes.find? (·.1 == "internal/reflectlite.rtype")).map (·.2) = some 137 := by kernel_rfl

theorem Tryz.errRow : ((List.range 189).filter fun t => Tryz.prog.rowNamed t [101, 114, 114, 111, 114]) = [37] := by kernel_rfl

theorem Tryz.typesSize : Tryz.prog.types.size = 189 := by kernel_rfl

/-- A list that holds errors.errorType with the handle of the type error says what errors.As asks. -/
theorem hasErr_of_laid {W : World} {l : List (String × DataW Unit)} (h : laidMetH Tryz.prog l W) (hm : ("errors.errorType", Rows.laid_errors_errorType) ∈ l) : HasErr W := by
  obtain ⟨_, h2⟩ := laidMetH_iff.1 h
  obtain ⟨name, u, ty, e1, e2, e3, e4, e5⟩ := h2 _ (List.mem_filter.2 ⟨hm, by kernel_rfl⟩)
  have en : name = [101, 114, 114, 111, 114] := (Option.some.inj e1).symm
  subst en
  obtain rfl := Option.some.inj (Tryz.rtRow.symm.trans e2)
  have hin : ty ∈ (List.range 189).filter fun t => Tryz.prog.rowNamed t [101, 114, 114, 111, 114] := List.mem_filter.2 ⟨List.mem_range.2 (by rw [← Tryz.typesSize]; exact e3), e4⟩
  rw [Tryz.errRow] at hin
  obtain rfl := List.mem_singleton.1 hin
  have hh : typeHandle Tryz.prog 37 = .pointer (some ⟨4, 37, none⟩) := by kernel_rfl
  rw [hh] at e5
  have hc := World.var?_cell Tryz.gErr e5 0
  unfold HasErr
  simpa using hc

/-- The cells that a flat datum of integers lays. -/
def cellsOfDatum : DataW Unit → Array Value
  | .agg l => (l.map fun d => match d with | .lit (.int k n) => Value.int k n | _ => .int .u8 0).toArray
  | _ => #[]

/-- The door's own heap, and Go's own table beside it. -/
noncomputable def laidWorld (os : Os) : World :=
  let w0 := World.doorLaid Tryz.prog 400 os
  { w0 with heap := w0.heap.modify 2 fun | .cells _ t fr => .cells (cellsOfDatum Go.Pinned.utf8First) t fr | o => o }

end Go.Proofs.YtdjljnpbnhampaaGreatDoor

namespace Go.Proofs.YtdjljnpbnhampaaGreatDoor.mstpBack
open Go.ChangeShapes Go.WideShapes Go.ChangeAt Go.RowKit
set_option linter.unusedVariables false

theorem laidOut_ : laidOutB Tryz.prog = true := by kernel_rfl

/-- A Mst of nothing. -/
def argM : Value := .agg #[.int .i64 0, .bool false, .bool false, .int .i64 0, .bool false, .bool false, .bool false, .bool false, .int .i64 0, .int .i64 0, .int .u8 0, .int .u8 0, .int .u8 0, .int .u8 0, .int .u8 0, .int .u8 0, .int .i64 0, .int .i64 0, .int .i64 0, .int .u8 0, .int .u8 0, .int .u8 0, .int .u8 0, .int .u8 0, .int .u8 0, .int .i64 0, .int .i64 0, .int .i64 0, .int .i64 0, .int .i64 0, .int .i64 0, .string ⟨#[]⟩, .int .i64 0, .string ⟨#[]⟩, .int .i64 0, .int .i64 0, .int .i64 0, .int .u8 0, .int .u8 0, .int .u8 0, .int .u8 0, .int .u8 0, .int .u8 0, .int .i64 0, .slice none 0 0]


theorem laid_met (os : Os) : laidMetH Tryz.prog Rows.mstpBackRow.laid ((laidWorld os).forCall (fun _ _ => 0) ⟨#[], #[argM, .string ⟨#[]⟩], []⟩).memory :=
  laidMetH_of_parts3 (fuel := 8) (laidMet_of_run' 8 (by kernel_rfl) (by kernel_rfl)) (by kernel_rfl) (by kernel_rfl)

theorem reads (os : Os) {H : Type} (enc : TypeId × Value → H) : ∃ places, DataW.whole enc Tryz.prog ((laidWorld os).forCall (fun _ _ => 0) ⟨#[], #[argM, .string ⟨#[]⟩], []⟩).memory Tryz.f3.params.toList Rows.mstpBackSpec.vars false #[argM, Value.string ⟨#[]⟩].toList 8 = some ([.agg [.agg [.lit (.int .i64 0), .agg [.lit (.bool false), .lit (.bool false), .lit (.int .i64 0), .lit (.bool false), .lit (.bool false), .lit (.bool false), .lit (.bool false)], .agg [.lit (.int .i64 0), .lit (.int .i64 0), .agg [.lit (.int .u8 0), .lit (.int .u8 0), .lit (.int .u8 0), .lit (.int .u8 0), .lit (.int .u8 0), .lit (.int .u8 0)]], .lit (.int .i64 0), .agg [.lit (.int .i64 0), .lit (.int .i64 0), .agg [.lit (.int .u8 0), .lit (.int .u8 0), .lit (.int .u8 0), .lit (.int .u8 0), .lit (.int .u8 0), .lit (.int .u8 0)]], .agg [.lit (.int .i64 0), .lit (.int .i64 0)], .lit (.int .i64 0), .lit (.int .i64 0), .lit (.int .i64 0), .lit (.int .i64 0)], .lit (.string []), .lit (.int .i64 0), .lit (.string []), .lit (.int .i64 0), .agg [.lit (.int .i64 0), .lit (.int .i64 0), .agg [.lit (.int .u8 0), .lit (.int .u8 0), .lit (.int .u8 0), .lit (.int .u8 0), .lit (.int .u8 0), .lit (.int .u8 0)]], .lit (.int .i64 0), .nil], .lit (.string [])], [], places) :=
  ⟨[], by kernel_rfl⟩

set_option maxRecDepth 100000 in
theorem lifted (os : Os) (started : os.Started) (H : Type) (enc : TypeId × Value → H) (F : Stop.Interp) :
    ReturnsInHanded {} Tryz.checked os 3 .any ((OpenSpec.ofChange Rows.mstpBackSpec).preRow enc Tryz.prog Tryz.f3 Rows.mstpBackRow.domain false Rows.mstpBackRow.laid) (((OpenSpec.ofChange Rows.mstpBackSpec).at F).post enc Tryz.prog Tryz.f3 false true false false) := by
  obtain ⟨places, hx⟩ := reads os enc
  refine returnsInHanded_of_row (C := Tryz.checked) (s := OpenSpec.ofChange Rows.mstpBackSpec) own started (by kernel_rfl) Tryz.func3
    (witness_row_at (enc := enc) (C := Tryz.checked) false (laidWorld os) #[argM, .string ⟨#[]⟩] rfl (by kernel_rfl) (by kernel_rfl) (by kernel_rfl)
      (OpenSpec.preRow_of_cond 8 hx (by kernel_rfl) (fun k hk => by cases hk) (by kernel_rfl) (laid_met os))) ?_
  intro W base args ds gs before hval0 hW _ _ hSz hL hsh _
  have hval : ∀ (j : Nat) t v, Tryz.f3.params[j]? = some t → args[j]? = some v → Value.okWide Tryz.prog W .any base t v := hval0
  have hE := hasErr_of_laid hL (by simp [Rows.mstpBackRow])
  have hW' := hW
  obtain ⟨p, q, hA0, hV, rfl, hfz, hnd⟩ := hW
  have hA : DataW.TrodAll enc Tryz.prog W 0 (fun _ => true) true Tryz.f3.params.toList args.toList ds p := hA0
  rw [Tryz.params3] at hA hval
  obtain ⟨v0, vs0, d0, ds0, p0, q0, hargs, rfl, rfl, h0, r0⟩ := trodAll_cons hA
  obtain ⟨v1, vs1, d1, ds1, p1, q1, rfl, rfl, rfl, h1, r1⟩ := trodAll_cons r0
  obtain ⟨rfl, rfl, rfl⟩ := trodAll_nil r1
  obtain rfl : args = #[v0, v1] := by cases args; simp_all
  obtain ⟨rfl, rfl⟩ := trodVars_none hV
  obtain ⟨a1, rfl, rfl, rfl, w1⟩ := ChangeMaps.open_string Tryz.underlying9 (hval 1 9 v1 rfl rfl) h1
  clear hA0
  simp only [List.append_nil] at hW'
  have hlt := hW'.lt
  obtain ⟨m0, a0, c0, l0, hh0, hv0⟩ := open_ms (hval 0 34 v0 rfl rfl) h0
  subst hv0
  have hs0 := hh0.2.2.2.2 (weights_of (j := 0) hSz rfl rfl)
  have hz1 := size_of (j := 1) hSz rfl rfl
  refine (walk m0 a0 c0 l0 hh0.1 a1 W hh0.2.1 hs0.1 hs0.2 hz1 hE).mono fun e W' ⟨he, hb⟩ => ?_
  subst he
  exact ⟨_, rfl, met_below hW' (fun _ _ _ => (trodAll_cons_mk (shut_bool Tryz.underlying4 _) trodAll_mk0)) (fun sp hsp => by have r := (trodAll_cons_mk (WideElems.Trod_stays laidOut_ (by kernel_rfl) (of_decide_eq_true (by kernel_rfl)) h0 (fun x hx => hb.same (hlt x (by simp [hx]))) (fun x hx => hsp x (by simp [hx]))) (trodAll_cons_mk (ChangeMaps.shut_string Tryz.underlying9 w1) trodAll_mk0)); simp only [List.append_nil] at r; exact r) (fun _ => rfl) hb
    (ok_one (by kernel_rfl) rfl (okWide_bool_mk Tryz.underlying4 _))⟩

theorem said : Rows.MstpBackSaid :=
  OpenClaim.holds_of_cond 3 Tryz.f3 rfl rfl rfl rfl rfl rfl rfl ⟨rfl, rfl, rfl, rfl, rfl⟩ rfl rfl rfl rfl rfl (by kernel_rfl) Tryz.func3 (by kernel_rfl)
    (of_decide_eq_true (by kernel_rfl)) (by unfold Func.isWrapper; first | (rw [if_pos (by decide +kernel)]; kernel_rfl) | (rw [if_neg (by decide +kernel)]; exact ⟨rfl, rfl⟩))
    (fun os started H enc _ F => by rw [OpenClaim.pre_eq_preRow]; exact lifted os started H enc F)

theorem plain (f : FuncId) (fn : Func) (hf : Tryz.pinned.checked.prog.funcNamed "switchyard/switchyardkeep.MstpBack" = some f) (hfn : Tryz.pinned.checked.prog.funcs[f]? = some fn) :
    true = Tryz.pinned.checked.prog.looks [] ∧ ∀ (j : Nat) t, fn.params[j]? = some t → Tryz.pinned.checked.prog.wantsStandIn t = false := by
  obtain rfl : f = 3 := Option.some.inj ((show Tryz.prog.funcNamed "switchyard/switchyardkeep.MstpBack" = some 3 by kernel_rfl).symm.trans hf) |>.symm
  obtain rfl : fn = Tryz.f3 := (Option.some.inj (Tryz.func3.symm.trans hfn)).symm
  refine ⟨by kernel_rfl, fun j t ht => ?_⟩
  rw [Tryz.params3] at ht
  have hm : t ∈ #[34, 9] := Array.mem_of_getElem? ht
  simp only [List.mem_toArray, List.mem_cons, List.not_mem_nil, or_false] at hm
  rcases hm with rfl | rfl
  · exact (show Tryz.prog.wantsStandIn 34 = false by kernel_rfl)
  · exact (show Tryz.prog.wantsStandIn 9 = false by kernel_rfl)

theorem card : Rows.MstpBackCardSaid :=
  Claim7.holds_tied_plain_at .later [] _ _ _ _ said (fun _ h => by cases h) (by kernel_rfl) (fun _ h => by cases h) mstpBack_row_tie rfl ⟨rfl, rfl⟩ (by kernel_rfl) rfl plain (by kernel_rfl)
#print axioms card

end Go.Proofs.YtdjljnpbnhampaaGreatDoor.mstpBack

