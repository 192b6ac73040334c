/- switchyardlaw.VerdictSames returns true for every argument, and changes nothing that was there. -/
import Derived.Test.YtnlphldkdglofaaVsK1
import Derived.Test.YtnlphldkdglofaaVecs
import Derived.ProofKit
import Derived.OpenShut
import Derived.WideKeyArgs
import Derived.WideShapes
import Derived.Lib.SmallJoins
import Derived.Deep.SlicePairs
import Derived.Test.YtnlphldkdglofaaBp
import Derived.Test.YtnlphldkdglofaaBpFits
import Derived.Test.YtnlphldkdglofaaMs
import Derived.SizedLaws
import Derived.Test.YtnlphldkdglofaaLdV
import Derived.Test.YtnlphldkdglofaaVd
import Derived.Test.YtnlphldkdglofaaRows
namespace Go.Proofs.Ytnlphldkdglofaa
open Go.ChangeShapes Go.WideShapes Go.ChangeAt Go.RowKit Go.Deep Go.Joins
set_option linter.unusedVariables false

theorem nat_u8f {z : Int} (h : (Lit.int .u8 z).wf = true) : ∃ n : Nat, z = n ∧ n < 256 := by
  have := bounds_u8 h
  exact ⟨z.toNat, by omega, by omega⟩

set_option maxRecDepth 100000 in
theorem six_trod {H : Type} {enc : TypeId × Value → H} {W : World} {base fuel : Nat} {sp : Nat → Bool} {held : Bool} {c0 c1 c2 c3 c4 c5 : Value} {y : DataW H × List MemPlace}
    (h : DataW.trod enc Try.prog W base sp held fuel 24 [c0, c1, c2, c3, c4, c5] = some y) :
    ∃ x : Nat → Nat, (∀ i, x i < 256) ∧ c0 = .int .u8 (x 0) ∧ c1 = .int .u8 (x 1) ∧ c2 = .int .u8 (x 2) ∧ c3 = .int .u8 (x 3) ∧ c4 = .int .u8 (x 4) ∧ c5 = .int .u8 (x 5) := by
  have hc1 : Try.prog.cellsOf 5 = 1 := by kernel_rfl
  obtain ⟨xs, m, _, _, _, hl, hx⟩ := DataW.trod_array Try.underlying24 h
  rw [hc1] at hx
  have each : ∀ (i : Nat) (c : Value), i < 6 → ((([c0, c1, c2, c3, c4, c5] : List Value).drop (i * 1)).take 1) = [c] → ∃ n : Nat, c = .int .u8 n ∧ n < 256 := by
    intro i c hi hc
    have h1 := hx i hi
    rw [hc] at h1
    obtain ⟨y, hy⟩ : ∃ y, xs[i]? = some y := ⟨xs[i]'(by omega), List.getElem?_eq_getElem _⟩
    rw [hy] at h1
    obtain ⟨z, e0, _, hw⟩ := DataW.trod_int Try.underlying5 h1
    simp only [List.cons.injEq, and_true] at e0
    obtain ⟨n, rfl, hn⟩ := nat_u8f hw
    exact ⟨n, e0, hn⟩
  obtain ⟨n0, rfl, h0⟩ := each 0 c0 (by omega) rfl
  obtain ⟨n1, rfl, h1⟩ := each 1 c1 (by omega) rfl
  obtain ⟨n2, rfl, h2⟩ := each 2 c2 (by omega) rfl
  obtain ⟨n3, rfl, h3⟩ := each 3 c3 (by omega) rfl
  obtain ⟨n4, rfl, h4⟩ := each 4 c4 (by omega) rfl
  obtain ⟨n5, rfl, h5⟩ := each 5 c5 (by omega) rfl
  refine ⟨fun i => if i = 0 then n0 else if i = 1 then n1 else if i = 2 then n2 else if i = 3 then n3 else if i = 4 then n4 else n5, fun i => ?_, rfl, rfl, rfl, rfl, rfl, rfl⟩
  dsimp only
  split
  · exact h0
  split
  · exact h1
  split
  · exact h2
  split
  · exact h3
  split
  · exact h4
  exact h5

theorem list2 {α : Type} (l : List α) (h : l.length = 2) : ∃ c0 c1, l = [c0, c1] := by
  match l, h with
  | [c0, c1], _ => exact ⟨c0, c1, rfl⟩

theorem list3 {α : Type} (l : List α) (h : l.length = 3) : ∃ c0 c1 c2, l = [c0, c1, c2] := by
  match l, h with
  | [c0, c1, c2], _ => exact ⟨c0, c1, c2, rfl⟩

theorem list5 {α : Type} (l : List α) (h : l.length = 5) : ∃ c0 c1 c2 c3 c4, l = [c0, c1, c2, c3, c4] := by
  match l, h with
  | [c0, c1, c2, c3, c4], _ => exact ⟨c0, c1, c2, c3, c4, rfl⟩

theorem list8 {α : Type} (l : List α) (h : l.length = 8) : ∃ c0 c1 c2 c3 c4 c5 c6 c7, l = [c0, c1, c2, c3, c4, c5, c6, c7] := by
  match l, h with
  | [c0, c1, c2, c3, c4, c5, c6, c7], _ => exact ⟨c0, c1, c2, c3, c4, c5, c6, c7, rfl⟩

theorem list21 {α : Type} (l : List α) (h : l.length = 21) : ∃ c0 c1 c2 c3 c4 c5 c6 c7 c8 c9 c10 c11 c12 c13 c14 c15 c16 c17 c18 c19 c20, l = [c0, c1, c2, c3, c4, c5, c6, c7, c8, c9, c10, c11, c12, c13, c14, c15, c16, c17, c18, c19, c20] := by
  match l, h with
  | [c0, c1, c2, c3, c4, c5, c6, c7, c8, c9, c10, c11, c12, c13, c14, c15, c16, c17, c18, c19, c20], _ => exact ⟨c0, c1, c2, c3, c4, c5, c6, c7, c8, c9, c10, c11, c12, c13, c14, c15, c16, c17, c18, c19, c20, rfl⟩

set_option maxRecDepth 100000 in
theorem br_trod {H : Type} {enc : TypeId × Value → H} {W : World} {base fuel : Nat} {sp : Nat → Bool} {held : Bool} {c0 c1 c2 c3 c4 c5 c6 c7 : Value} {y : DataW H × List MemPlace}
    (h : DataW.trod enc Try.prog W base sp held fuel 37 [c0, c1, c2, c3, c4, c5, c6, c7] = some y) :
    ∃ b : Br, (∀ i, b.a i < 256) ∧ c0 = .int .i64 b.p ∧ c1 = .int .i64 b.e ∧ c2 = .int .u8 (b.a 0) ∧ c3 = .int .u8 (b.a 1) ∧ c4 = .int .u8 (b.a 2) ∧ c5 = .int .u8 (b.a 3) ∧ c6 = .int .u8 (b.a 4) ∧ c7 = .int .u8 (b.a 5) := by
  have _h1 : Try.prog.cellsOf 24 = 6 := by kernel_rfl
  have _h2 : Try.prog.cellsOf 3 = 1 := by kernel_rfl
  obtain ⟨xs, n, _, hx, _, hlen, hg⟩ := DataW.trod_struct Try.underlying37 h
  obtain ⟨y0, y1, y2, rfl⟩ := list3 xs hlen
  have g0 := hg 0 _ rfl
  have g1 := hg 1 _ rfl
  have g2 := hg 2 _ rfl
  obtain ⟨x0, e0, _, wf0⟩ := DataW.trod_int Try.underlying3 g0
  obtain rfl : c0 = .int .i64 x0 := (List.cons.inj (show [c0] = [.int .i64 x0] from e0)).1
  obtain ⟨x1, e1, _, wf1⟩ := DataW.trod_int Try.underlying3 g1
  obtain rfl : c1 = .int .i64 x1 := (List.cons.inj (show [c1] = [.int .i64 x1] from e1)).1
  obtain ⟨x2, hx2, rfl, rfl, rfl, rfl, rfl, rfl⟩ := six_trod g2
  exact ⟨⟨x0, x1, x2⟩, hx2, rfl, rfl, rfl, rfl, rfl, rfl, rfl, rfl⟩

set_option maxRecDepth 100000 in
theorem pt_trod {H : Type} {enc : TypeId × Value → H} {W : World} {base fuel : Nat} {sp : Nat → Bool} {held : Bool} {c0 c1 : Value} {y : DataW H × List MemPlace}
    (h : DataW.trod enc Try.prog W base sp held fuel 39 [c0, c1] = some y) : ∃ p n : Int, c0 = .int .i64 p ∧ c1 = .int .i64 n := by
  have _h2 : Try.prog.cellsOf 3 = 1 := by kernel_rfl
  obtain ⟨xs, n, _, hx, _, hlen, hg⟩ := DataW.trod_struct Try.underlying39 h
  obtain ⟨y0, y1, rfl⟩ := list2 xs hlen
  have g0 := hg 0 _ rfl
  have g1 := hg 1 _ rfl
  obtain ⟨x0, e0, _, wf0⟩ := DataW.trod_int Try.underlying3 g0
  obtain rfl : c0 = .int .i64 x0 := (List.cons.inj (show [c0] = [.int .i64 x0] from e0)).1
  obtain ⟨x1, e1, _, wf1⟩ := DataW.trod_int Try.underlying3 g1
  obtain rfl : c1 = .int .i64 x1 := (List.cons.inj (show [c1] = [.int .i64 x1] from e1)).1
  exact ⟨x0, x1, rfl, rfl⟩



set_option maxRecDepth 100000 in
theorem open_br {H : Type} {enc : TypeId × Value → H} {W : World} {base : Nat} {v : Value} {d : DataW H} {p : List MemPlace} (hval : Value.okWide Try.prog W .any base 37 v)
    (h : DataW.Trod enc Try.prog W 0 (fun _ => true) true 37 v d p) : ∃ b : Br, (∀ i, b.a i < 256) ∧ v = .agg (brC b) := by
  have hcn : Try.prog.cellsOf 37 = 8 := by kernel_rfl
  obtain ⟨cs, rfl, hsz⟩ := okWide_struct Try.underlying37 hval
  rw [hcn] at hsz
  obtain ⟨l⟩ := cs
  obtain ⟨c0, c1, c2, c3, c4, c5, c6, c7, rfl⟩ := list8 l hsz
  obtain ⟨fuel, hf⟩ := h
  obtain ⟨b, hb, rfl, rfl, rfl, rfl, rfl, rfl, rfl, rfl⟩ := br_trod (show DataW.trod enc Try.prog W 0 (fun _ => true) true fuel 37 [c0, c1, c2, c3, c4, c5, c6, c7] = some _ by simpa [Value.cells] using hf)
  exact ⟨b, hb, rfl⟩

set_option maxRecDepth 100000 in
theorem open_pt {H : Type} {enc : TypeId × Value → H} {W : World} {base : Nat} {v : Value} {d : DataW H} {p : List MemPlace} (hval : Value.okWide Try.prog W .any base 39 v)
    (h : DataW.Trod enc Try.prog W 0 (fun _ => true) true 39 v d p) : ∃ m n : Int, v = .agg (ptC m n) := by
  have hcn : Try.prog.cellsOf 39 = 2 := by kernel_rfl
  obtain ⟨cs, rfl, hsz⟩ := okWide_struct Try.underlying39 hval
  rw [hcn] at hsz
  obtain ⟨l⟩ := cs
  obtain ⟨c0, c1, rfl⟩ := list2 l hsz
  obtain ⟨fuel, hf⟩ := h
  obtain ⟨m, n, rfl, rfl⟩ := pt_trod (show DataW.trod enc Try.prog W 0 (fun _ => true) true fuel 39 [c0, c1] = some _ by simpa [Value.cells] using hf)
  exact ⟨m, n, rfl⟩




end Go.Proofs.Ytnlphldkdglofaa

namespace Go.Proofs.Ytnlphldkdglofaa
open Go.ChangeShapes Go.WideShapes Go.ChangeAt Go.RowKit Go.Deep Go.Joins
set_option linter.unusedVariables false

theorem list7 {α : Type} (l : List α) (h : l.length = 7) : ∃ c0 c1 c2 c3 c4 c5 c6, l = [c0, c1, c2, c3, c4, c5, c6] := by
  match l, h with
  | [c0, c1, c2, c3, c4, c5, c6], _ => exact ⟨c0, c1, c2, c3, c4, c5, c6, rfl⟩

theorem list10 {α : Type} (l : List α) (h : l.length = 10) : ∃ c0 c1 c2 c3 c4 c5 c6 c7 c8 c9, l = [c0, c1, c2, c3, c4, c5, c6, c7, c8, c9] := by
  match l, h with
  | [c0, c1, c2, c3, c4, c5, c6, c7, c8, c9], _ => exact ⟨c0, c1, c2, c3, c4, c5, c6, c7, c8, c9, rfl⟩

theorem list31 {α : Type} (l : List α) (h : l.length = 31) : ∃ c0 c1 c2 c3 c4 c5 c6 c7 c8 c9 c10 c11 c12 c13 c14 c15 c16 c17 c18 c19 c20 c21 c22 c23 c24 c25 c26 c27 c28 c29 c30, l = [c0, c1, c2, c3, c4, c5, c6, c7, c8, c9, c10, c11, c12, c13, c14, c15, c16, c17, c18, c19, c20, c21, c22, c23, c24, c25, c26, c27, c28, c29, c30] := by
  match l, h with
  | [c0, c1, c2, c3, c4, c5, c6, c7, c8, c9, c10, c11, c12, c13, c14, c15, c16, c17, c18, c19, c20, c21, c22, c23, c24, c25, c26, c27, c28, c29, c30], _ => exact ⟨c0, c1, c2, c3, c4, c5, c6, c7, c8, c9, c10, c11, c12, c13, c14, c15, c16, c17, c18, c19, c20, c21, c22, c23, c24, c25, c26, c27, c28, c29, c30, rfl⟩

set_option maxRecDepth 100000 in
theorem fl_trod {H : Type} {enc : TypeId × Value → H} {W : World} {base fuel : Nat} {sp : Nat → Bool} {held : Bool} {c0 c1 c2 c3 c4 c5 c6 : Value} {y : DataW H × List MemPlace}
    (h : DataW.trod enc Try.prog W base sp held fuel 35 [c0, c1, c2, c3, c4, c5, c6] = some y) : ∃ f : Fl, [c0, c1, c2, c3, c4, c5, c6] = (flC f).toList := by
  have _h1 : Try.prog.cellsOf 4 = 1 := by kernel_rfl
  have _h2 : Try.prog.cellsOf 3 = 1 := by kernel_rfl
  obtain ⟨xs, n, _, hx, _, hlen, hg⟩ := DataW.trod_struct Try.underlying35 h
  obtain ⟨y0, y1, y2, y3, y4, y5, y6, rfl⟩ := list7 xs hlen
  have g0 := hg 0 _ rfl
  have g1 := hg 1 _ rfl
  have g2 := hg 2 _ rfl
  have g3 := hg 3 _ rfl
  have g4 := hg 4 _ rfl
  have g5 := hg 5 _ rfl
  have g6 := hg 6 _ rfl
  obtain ⟨x0, e0, _⟩ := DataW.trod_bool Try.underlying4 g0
  obtain rfl : c0 = .bool x0 := (List.cons.inj (show [c0] = [.bool x0] from e0)).1
  obtain ⟨x1, e1, _⟩ := DataW.trod_bool Try.underlying4 g1
  obtain rfl : c1 = .bool x1 := (List.cons.inj (show [c1] = [.bool x1] from e1)).1
  obtain ⟨x2, e2, _, wf2⟩ := DataW.trod_int Try.underlying3 g2
  obtain rfl : c2 = .int .i64 x2 := (List.cons.inj (show [c2] = [.int .i64 x2] from e2)).1
  obtain ⟨x3, e3, _⟩ := DataW.trod_bool Try.underlying4 g3
  obtain rfl : c3 = .bool x3 := (List.cons.inj (show [c3] = [.bool x3] from e3)).1
  obtain ⟨x4, e4, _⟩ := DataW.trod_bool Try.underlying4 g4
  obtain rfl : c4 = .bool x4 := (List.cons.inj (show [c4] = [.bool x4] from e4)).1
  obtain ⟨x5, e5, _⟩ := DataW.trod_bool Try.underlying4 g5
  obtain rfl : c5 = .bool x5 := (List.cons.inj (show [c5] = [.bool x5] from e5)).1
  obtain ⟨x6, e6, _⟩ := DataW.trod_bool Try.underlying4 g6
  obtain rfl : c6 = .bool x6 := (List.cons.inj (show [c6] = [.bool x6] from e6)).1
  exact ⟨⟨x0, x1, x2, x3, x4, x5, x6⟩, rfl⟩

set_option maxRecDepth 100000 in
theorem open_fl {H : Type} {enc : TypeId × Value → H} {W : World} {base : Nat} {v : Value} {d : DataW H} {p : List MemPlace} (hval : Value.okWide Try.prog W .any base 35 v)
    (h : DataW.Trod enc Try.prog W 0 (fun _ => true) true 35 v d p) : ∃ f : Fl, v = .agg (flC f) := by
  have hcn : Try.prog.cellsOf 35 = 7 := by kernel_rfl
  obtain ⟨cs, rfl, hsz⟩ := okWide_struct Try.underlying35 hval
  rw [hcn] at hsz
  obtain ⟨l⟩ := cs
  obtain ⟨c0, c1, c2, c3, c4, c5, c6, rfl⟩ := list7 l hsz
  obtain ⟨fuel, hf⟩ := h
  obtain ⟨f, he⟩ := fl_trod (show DataW.trod enc Try.prog W 0 (fun _ => true) true fuel 35 [c0, c1, c2, c3, c4, c5, c6] = some _ by simpa [Value.cells] using hf)
  exact ⟨f, by rw [he]⟩

set_option maxRecDepth 100000 in
theorem open_bp {H : Type} {enc : TypeId × Value → H} {W : World} {base : Nat} {v : Value} {d : DataW H} {p : List MemPlace} (hval : Value.okWide Try.prog W .any base 41 v)
    (h : DataW.Trod enc Try.prog W 0 (fun _ => true) true 41 v d p) : ∃ b : Bp, byBp b ∧ rgBp b ∧ v = .agg (bpC b) := by
  have hcn : Try.prog.cellsOf 41 = 31 := by kernel_rfl
  have _h1 : Try.prog.cellsOf 37 = 8 := by kernel_rfl
  have _h3 : Try.prog.cellsOf 39 = 2 := by kernel_rfl
  have _h4 : Try.prog.cellsOf 35 = 7 := by kernel_rfl
  have _h2 : Try.prog.cellsOf 3 = 1 := by kernel_rfl
  obtain ⟨cs, rfl, hsz⟩ := okWide_struct Try.underlying41 hval
  rw [hcn] at hsz
  obtain ⟨l⟩ := cs
  obtain ⟨c0, c1, c2, c3, c4, c5, c6, c7, c8, c9, c10, c11, c12, c13, c14, c15, c16, c17, c18, c19, c20, c21, c22, c23, c24, c25, c26, c27, c28, c29, c30, rfl⟩ := list31 l hsz
  obtain ⟨fuel, hf⟩ := h
  have h : DataW.trod enc Try.prog W 0 (fun _ => true) true fuel 41 [c0, c1, c2, c3, c4, c5, c6, c7, c8, c9, c10, c11, c12, c13, c14, c15, c16, c17, c18, c19, c20, c21, c22, c23, c24, c25, c26, c27, c28, c29, c30] = some (d, p) := by simpa [Value.cells] using hf
  obtain ⟨xs, n, _, hx, _, hlen, hg⟩ := DataW.trod_struct Try.underlying41 h
  obtain ⟨y0, y1, y2, y3, y4, y5, y6, y7, y8, y9, rfl⟩ := list10 xs hlen
  have g0 := hg 0 _ rfl
  have g1 := hg 1 _ rfl
  have g2 := hg 2 _ rfl
  have g3 := hg 3 _ rfl
  have g4 := hg 4 _ rfl
  have g5 := hg 5 _ rfl
  have g6 := hg 6 _ rfl
  have g7 := hg 7 _ rfl
  have g8 := hg 8 _ rfl
  have g9 := hg 9 _ rfl
  obtain ⟨x0, e0, _, wf0⟩ := DataW.trod_int Try.underlying3 g0
  obtain rfl : c0 = .int .i64 x0 := (List.cons.inj (show [c0] = [.int .i64 x0] from e0)).1
  obtain ⟨fl, hfl⟩ := fl_trod g1
  simp only [flC, List.cons.injEq, and_true] at hfl
  obtain ⟨rfl, rfl, rfl, rfl, rfl, rfl, rfl⟩ := hfl
  obtain ⟨r, hr, rfl, rfl, rfl, rfl, rfl, rfl, rfl, rfl⟩ := br_trod g2
  obtain ⟨x3, e3, _, wf3⟩ := DataW.trod_int Try.underlying3 g3
  obtain rfl : c16 = .int .i64 x3 := (List.cons.inj (show [c16] = [.int .i64 x3] from e3)).1
  obtain ⟨t, ht, rfl, rfl, rfl, rfl, rfl, rfl, rfl, rfl⟩ := br_trod g4
  obtain ⟨p, q, rfl, rfl⟩ := pt_trod g5
  obtain ⟨x6, e6, _, wf6⟩ := DataW.trod_int Try.underlying3 g6
  obtain rfl : c27 = .int .i64 x6 := (List.cons.inj (show [c27] = [.int .i64 x6] from e6)).1
  obtain ⟨x7, e7, _, wf7⟩ := DataW.trod_int Try.underlying3 g7
  obtain rfl : c28 = .int .i64 x7 := (List.cons.inj (show [c28] = [.int .i64 x7] from e7)).1
  obtain ⟨x8, e8, _, wf8⟩ := DataW.trod_int Try.underlying3 g8
  obtain rfl : c29 = .int .i64 x8 := (List.cons.inj (show [c29] = [.int .i64 x8] from e8)).1
  obtain ⟨x9, e9, _, wf9⟩ := DataW.trod_int Try.underlying3 g9
  obtain rfl : c30 = .int .i64 x9 := (List.cons.inj (show [c30] = [.int .i64 x9] from e9)).1
  exact ⟨⟨x0, fl, r, x3, t, p, q, x6, x7, x8, x9⟩, ⟨hr, ht⟩, ⟨bounds_i64 wf3, bounds_i64 wf6, bounds_i64 wf7, bounds_i64 wf8, bounds_i64 wf9⟩, rfl⟩

end Go.Proofs.Ytnlphldkdglofaa

namespace Go.Proofs.Ytnlphldkdglofaa
open Go.ChangeShapes Go.WideShapes Go.ChangeAt Go.RowKit Go.Deep Go.Joins
set_option linter.unusedVariables false

theorem list6 {α : Type} (l : List α) (h : l.length = 6) : ∃ c0 c1 c2 c3 c4 c5, l = [c0, c1, c2, c3, c4, c5] := by
  match l, h with
  | [c0, c1, c2, c3, c4, c5], _ => exact ⟨c0, c1, c2, c3, c4, c5, rfl⟩

theorem list14 {α : Type} (l : List α) (h : l.length = 14) : ∃ c0 c1 c2 c3 c4 c5 c6 c7 c8 c9 c10 c11 c12 c13, l = [c0, c1, c2, c3, c4, c5, c6, c7, c8, c9, c10, c11, c12, c13] := by
  match l, h with
  | [c0, c1, c2, c3, c4, c5, c6, c7, c8, c9, c10, c11, c12, c13], _ => exact ⟨c0, c1, c2, c3, c4, c5, c6, c7, c8, c9, c10, c11, c12, c13, rfl⟩

theorem list19 {α : Type} (l : List α) (h : l.length = 19) : ∃ c0 c1 c2 c3 c4 c5 c6 c7 c8 c9 c10 c11 c12 c13 c14 c15 c16 c17 c18, l = [c0, c1, c2, c3, c4, c5, c6, c7, c8, c9, c10, c11, c12, c13, c14, c15, c16, c17, c18] := by
  match l, h with
  | [c0, c1, c2, c3, c4, c5, c6, c7, c8, c9, c10, c11, c12, c13, c14, c15, c16, c17, c18], _ => exact ⟨c0, c1, c2, c3, c4, c5, c6, c7, c8, c9, c10, c11, c12, c13, c14, c15, c16, c17, c18, rfl⟩

theorem list45 {α : Type} (l : List α) (h : l.length = 45) : ∃ c0 c1 c2 c3 c4 c5 c6 c7 c8 c9 c10 c11 c12 c13 c14 c15 c16 c17 c18 c19 c20 c21 c22 c23 c24 c25 c26 c27 c28 c29 c30 c31 c32 c33 c34 c35 c36 c37 c38 c39 c40 c41 c42 c43 c44, l = [c0, c1, c2, c3, c4, c5, c6, c7, c8, c9, c10, c11, c12, c13, c14, c15, c16, c17, c18, c19, c20, c21, c22, c23, c24, c25, c26, c27, c28, c29, c30, c31, c32, c33, c34, c35, c36, c37, c38, c39, c40, c41, c42, c43, c44] := by
  obtain ⟨c0, c1, c2, c3, c4, c5, c6, c7, c8, c9, c10, c11, c12, c13, c14, c15, c16, c17, c18, c19, c20, c21, c22, c23, c24, c25, c26, c27, c28, c29, c30, h1⟩ := list31 (l.take 31) (by rw [List.length_take]; omega)
  obtain ⟨c31, c32, c33, c34, c35, c36, c37, c38, c39, c40, c41, c42, c43, c44, h2⟩ := list14 (l.drop 31) (by rw [List.length_drop]; omega)
  exact ⟨c0, c1, c2, c3, c4, c5, c6, c7, c8, c9, c10, c11, c12, c13, c14, c15, c16, c17, c18, c19, c20, c21, c22, c23, c24, c25, c26, c27, c28, c29, c30, c31, c32, c33, c34, c35, c36, c37, c38, c39, c40, c41, c42, c43, c44, by rw [← List.take_append_drop 31 l, h1, h2]; rfl⟩

set_option maxRecDepth 100000 in
theorem bp_trod {H : Type} {enc : TypeId × Value → H} {W : World} {base fuel : Nat} {sp : Nat → Bool} {held : Bool} {c0 c1 c2 c3 c4 c5 c6 c7 c8 c9 c10 c11 c12 c13 c14 c15 c16 c17 c18 c19 c20 c21 c22 c23 c24 c25 c26 c27 c28 c29 c30 : Value} {y : DataW H × List MemPlace}
    (h : DataW.trod enc Try.prog W base sp held fuel 41 [c0, c1, c2, c3, c4, c5, c6, c7, c8, c9, c10, c11, c12, c13, c14, c15, c16, c17, c18, c19, c20, c21, c22, c23, c24, c25, c26, c27, c28, c29, c30] = some y) : ∃ b : Bp, byBp b ∧ rgBp b ∧ [c0, c1, c2, c3, c4, c5, c6, c7, c8, c9, c10, c11, c12, c13, c14, c15, c16, c17, c18, c19, c20, c21, c22, c23, c24, c25, c26, c27, c28, c29, c30] = (bpC b).toList := by
  have _h1 : Try.prog.cellsOf 37 = 8 := by kernel_rfl
  have _h3 : Try.prog.cellsOf 39 = 2 := by kernel_rfl
  have _h4 : Try.prog.cellsOf 35 = 7 := by kernel_rfl
  have _h2 : Try.prog.cellsOf 3 = 1 := by kernel_rfl
  obtain ⟨xs, n, _, hx, _, hlen, hg⟩ := DataW.trod_struct Try.underlying41 h
  obtain ⟨y0, y1, y2, y3, y4, y5, y6, y7, y8, y9, rfl⟩ := list10 xs hlen
  have g0 := hg 0 _ rfl
  have g1 := hg 1 _ rfl
  have g2 := hg 2 _ rfl
  have g3 := hg 3 _ rfl
  have g4 := hg 4 _ rfl
  have g5 := hg 5 _ rfl
  have g6 := hg 6 _ rfl
  have g7 := hg 7 _ rfl
  have g8 := hg 8 _ rfl
  have g9 := hg 9 _ rfl
  obtain ⟨x0, e0, _, wf0⟩ := DataW.trod_int Try.underlying3 g0
  obtain rfl : c0 = .int .i64 x0 := (List.cons.inj (show [c0] = [.int .i64 x0] from e0)).1
  obtain ⟨fl, hfl⟩ := fl_trod g1
  simp only [flC, List.cons.injEq, and_true] at hfl
  obtain ⟨rfl, rfl, rfl, rfl, rfl, rfl, rfl⟩ := hfl
  obtain ⟨r, hr, rfl, rfl, rfl, rfl, rfl, rfl, rfl, rfl⟩ := br_trod g2
  obtain ⟨x3, e3, _, wf3⟩ := DataW.trod_int Try.underlying3 g3
  obtain rfl : c16 = .int .i64 x3 := (List.cons.inj (show [c16] = [.int .i64 x3] from e3)).1
  obtain ⟨t, ht, rfl, rfl, rfl, rfl, rfl, rfl, rfl, rfl⟩ := br_trod g4
  obtain ⟨p, q, rfl, rfl⟩ := pt_trod g5
  obtain ⟨x6, e6, _, wf6⟩ := DataW.trod_int Try.underlying3 g6
  obtain rfl : c27 = .int .i64 x6 := (List.cons.inj (show [c27] = [.int .i64 x6] from e6)).1
  obtain ⟨x7, e7, _, wf7⟩ := DataW.trod_int Try.underlying3 g7
  obtain rfl : c28 = .int .i64 x7 := (List.cons.inj (show [c28] = [.int .i64 x7] from e7)).1
  obtain ⟨x8, e8, _, wf8⟩ := DataW.trod_int Try.underlying3 g8
  obtain rfl : c29 = .int .i64 x8 := (List.cons.inj (show [c29] = [.int .i64 x8] from e8)).1
  obtain ⟨x9, e9, _, wf9⟩ := DataW.trod_int Try.underlying3 g9
  obtain rfl : c30 = .int .i64 x9 := (List.cons.inj (show [c30] = [.int .i64 x9] from e9)).1
  exact ⟨⟨x0, fl, r, x3, t, p, q, x6, x7, x8, x9⟩, ⟨hr, ht⟩, ⟨bounds_i64 wf3, bounds_i64 wf6, bounds_i64 wf7, bounds_i64 wf8, bounds_i64 wf9⟩, rfl⟩

set_option maxRecDepth 100000 in
theorem in_trod {H : Type} {enc : TypeId × Value → H} {W : World} {base fuel : Nat} {sp : Nat → Bool} {held : Bool} {c0 c1 c2 c3 c4 c5 c6 c7 c8 c9 c10 c11 c12 c13 c14 c15 c16 c17 c18 : Value} {y : DataW H × List MemPlace}
    (h : DataW.trod enc Try.prog W base sp held fuel 76 [c0, c1, c2, c3, c4, c5, c6, c7, c8, c9, c10, c11, c12, c13, c14, c15, c16, c17, c18] = some y) : ∃ x : Ins, (byIns x ∧ rgIn x) ∧ [c0, c1, c2, c3, c4, c5, c6, c7, c8, c9, c10, c11, c12, c13, c14, c15, c16, c17, c18] = (inC x).toList := by
  have _h1 : Try.prog.cellsOf 37 = 8 := by kernel_rfl
  have _h4 : Try.prog.cellsOf 35 = 7 := by kernel_rfl
  have _h2 : Try.prog.cellsOf 3 = 1 := by kernel_rfl
  obtain ⟨xs, n, _, hx, _, hlen, hg⟩ := DataW.trod_struct Try.underlying76 h
  obtain ⟨y0, y1, y2, y3, y4, y5, rfl⟩ := list6 xs hlen
  have g0 := hg 0 _ rfl
  have g1 := hg 1 _ rfl
  have g2 := hg 2 _ rfl
  have g3 := hg 3 _ rfl
  have g4 := hg 4 _ rfl
  have g5 := hg 5 _ rfl
  obtain ⟨fl, hfl⟩ := fl_trod g0
  simp only [flC, List.cons.injEq, and_true] at hfl
  obtain ⟨rfl, rfl, rfl, rfl, rfl, rfl, rfl⟩ := hfl
  obtain ⟨r, hr, rfl, rfl, rfl, rfl, rfl, rfl, rfl, rfl⟩ := br_trod g1
  obtain ⟨x2, e2, _, wf2⟩ := DataW.trod_int Try.underlying3 g2
  obtain rfl : c15 = .int .i64 x2 := (List.cons.inj (show [c15] = [.int .i64 x2] from e2)).1
  obtain ⟨x3, e3, _, wf3⟩ := DataW.trod_int Try.underlying3 g3
  obtain rfl : c16 = .int .i64 x3 := (List.cons.inj (show [c16] = [.int .i64 x3] from e3)).1
  obtain ⟨x4, e4, _, wf4⟩ := DataW.trod_int Try.underlying3 g4
  obtain rfl : c17 = .int .i64 x4 := (List.cons.inj (show [c17] = [.int .i64 x4] from e4)).1
  obtain ⟨x5, e5, _, wf5⟩ := DataW.trod_int Try.underlying3 g5
  obtain rfl : c18 = .int .i64 x5 := (List.cons.inj (show [c18] = [.int .i64 x5] from e5)).1
  exact ⟨⟨fl, r, x2, x3, x4, x5⟩, ⟨hr, bounds_i64 wf2, bounds_i64 wf5⟩, rfl⟩

/- A cell that reads as a list of instances. -/

set_option maxRecDepth 100000 in
theorem ins_cell {H : Type} {enc : TypeId × Value → H} {W : World} {fuel : Nat} {z0 : Value} {y : DataW H × List MemPlace}
    (hf : DataW.trod enc Try.prog W 0 (fun _ => true) true fuel 42 [z0] = some y) : ∃ (a : Option Addr) (c : Nat) (l : List Ins), z0 = .slice a l.length c ∧ l.length ≤ c ∧ c ≤ maxLen ∧ InIn W a l ∧ ∀ x ∈ l, byIns x ∧ rgIn x := by
  have hs : Try.prog.underlying 42 = some (.slice 76) := by kernel_rfl
  have hc3 : Try.prog.cellsOf 76 = 19 := by kernel_rfl
  rcases open_slice hs hf with ⟨hc, hx⟩ | ⟨b, n, c, m, k, D, Pl, hc, hb, hl, hm, hmm, hx, hall⟩
  · simp at hc
    subst hc
    exact ⟨none, 0, [], rfl, Nat.le_refl _, by decide, Or.inl rfl, by simp⟩
  · simp at hc
    subst hc
    have hlm : n ≤ m := by rw [hmm]; split <;> omega
    have each : ∀ i, i < n → ∃ t : Ins, (byIns t ∧ rgIn t) ∧ ∀ (j : Nat) (x : Value), (inC t)[j]? = some x → W.cell? (b.add (i * 19 + j)) = some x := by
      intro i hi
      obtain ⟨cs', h1, h2⟩ := hall i (by omega)
      rw [hc3] at h1
      obtain ⟨_, hlen, hcell⟩ := World.cells?_some h1
      obtain ⟨c0, c1, c2, c3, c4, c5, c6, c7, c8, c9, c10, c11, c12, c13, c14, c15, c16, c17, c18, rfl⟩ := list19 cs' hlen
      obtain ⟨t, ht, he⟩ := in_trod h2
      refine ⟨t, ht, fun j x hj => ?_⟩
      have hj2 : j < 19 := (Array.getElem?_eq_some_iff.1 hj).1
      have g := hcell j (by omega)
      rw [add_add] at g
      rw [g]
      have e2 : ([c0, c1, c2, c3, c4, c5, c6, c7, c8, c9, c10, c11, c12, c13, c14, c15, c16, c17, c18] : List Value)[j]? = some x := by rw [he]; simpa using hj
      exact e2
    obtain ⟨z, hz⟩ := choose_lt each
    obtain ⟨bb, bo, bs⟩ := b
    rcases Nat.eq_zero_or_pos n with rfl | q0
    · exact ⟨some ⟨bb, bo, bs⟩, c, [], rfl, hl, hm, Or.inl rfl, by simp⟩
    have h0 := (hz 0 q0).2 0 _ rfl
    have hspot : bs = none := by simpa [Addr.add] using World.cell?_spot h0
    subst hspot
    refine ⟨some ⟨bb, bo, none⟩, c, (List.range n).map z, by simp, by simpa using hl, hm, Or.inr ⟨bb, bo, rfl, ?_, fun j hj k x hx => ?_⟩, ?_⟩
    · have := World.block_lt_of_cell? W _ h0
      simpa [Addr.add] using this
    · have hj' : j < n := by simpa using hj
      simp only [List.getElem_map, List.getElem_range] at hx
      have e0 := (hz j hj').2 k x hx
      rw [add_plain] at e0
      rw [Nat.add_assoc]
      exact e0
    · intro v hv
      obtain ⟨j, hj, rfl⟩ := List.mem_map.1 hv
      exact (hz j (List.mem_range.1 hj)).1

theorem size_of {H : Type} {P : Program} {ts : List TypeId} {ds : List (DataW H)} (h : (DataW.weightsEach P ts ds).all (· ≤ reachBytes) = true) {j : Nat} {t : TypeId} {s : ByteArray} (ht : ts[j]? = some t) (hd : ds[j]? = some (.lit (.string s.data.toList))) : s.size ≤ 140737488355328 := by
  have h1 := sized_string h ht hd
  have h2 := reachBytes_lt
  have e : s.data.toList.length = s.size := by simp
  omega

theorem weights_of {H : Type} {P : Program} {ts : List TypeId} {ds : List (DataW H)} (h : (DataW.weightsEach P ts ds).all (· ≤ reachBytes) = true) {j : Nat} {t : TypeId} {d : DataW H} (ht : ts[j]? = some t) (hd : ds[j]? = some d) : ∀ n ∈ d.weights P t, n ≤ reachBytes := fun m hm => by
  have := List.all_eq_true.1 h m (DataW.weights_mem_each ht hd m hm)
  simpa using this

/-- What an argument's numbers are. -/
def ArgMs (m : Ms) (l : List Ins) : Prop := (byBp m.base ∧ byB m.br ∧ ∀ x ∈ l, byIns x) ∧ rgBp m.base ∧ rgMs m ∧ ∀ x ∈ l, rgIn x

set_option maxRecDepth 100000 in
theorem open_ms {H : Type} {enc : TypeId × Value → H} {W : World} {base : Nat} {v : Value} {d : DataW H} {p : List MemPlace} (hval : Value.okWide Try.prog W .any base 44 v)
    (h : DataW.Trod enc Try.prog W 0 (fun _ => true) true 44 v d p) : ∃ (m : Ms) (a : Option Addr) (c : Nat) (l : List Ins), (ArgMs m l ∧ InIn W a l ∧ l.length ≤ c ∧ c ≤ maxLen ∧ ((∀ n ∈ d.weights Try.prog 44, n ≤ reachBytes) → m.name.size ≤ 140737488355328 ∧ m.dig.size ≤ 140737488355328)) ∧ v = .agg (msC m (.slice a l.length c)) := by
  have hcn : Try.prog.cellsOf 44 = 45 := by kernel_rfl
  have _h0 : Try.prog.cellsOf 41 = 31 := by kernel_rfl
  have _h1 : Try.prog.cellsOf 37 = 8 := by kernel_rfl
  have _h2 : Try.prog.cellsOf 3 = 1 := by kernel_rfl
  have _h3 : Try.prog.cellsOf 9 = 1 := by kernel_rfl
  have _h4 : Try.prog.cellsOf 42 = 1 := by kernel_rfl
  obtain ⟨cs, rfl, hsz⟩ := okWide_struct Try.underlying44 hval
  rw [hcn] at hsz
  obtain ⟨l⟩ := cs
  obtain ⟨c0, c1, c2, c3, c4, c5, c6, c7, c8, c9, c10, c11, c12, c13, c14, c15, c16, c17, c18, c19, c20, c21, c22, c23, c24, c25, c26, c27, c28, c29, c30, c31, c32, c33, c34, c35, c36, c37, c38, c39, c40, c41, c42, c43, c44, rfl⟩ := list45 l hsz
  obtain ⟨fuel, hf⟩ := h
  have h : DataW.trod enc Try.prog W 0 (fun _ => true) true fuel 44 [c0, c1, c2, c3, c4, c5, c6, c7, c8, c9, c10, c11, c12, c13, c14, c15, c16, c17, c18, c19, c20, c21, c22, c23, c24, c25, c26, c27, c28, c29, c30, c31, c32, c33, c34, c35, c36, c37, c38, c39, c40, c41, c42, c43, c44] = some (d, p) := by simpa [Value.cells] using hf
  obtain ⟨xs, n, _, hx, _, hlen, hg⟩ := DataW.trod_struct Try.underlying44 h
  obtain ⟨y0, y1, y2, y3, y4, y5, y6, y7, rfl⟩ := list8 xs hlen
  have g0 := hg 0 _ rfl
  have g1 := hg 1 _ rfl
  have g2 := hg 2 _ rfl
  have g3 := hg 3 _ rfl
  have g4 := hg 4 _ rfl
  have g5 := hg 5 _ rfl
  have g6 := hg 6 _ rfl
  have g7 := hg 7 _ rfl
  obtain ⟨bb, hby, hrg, hbb⟩ := bp_trod g0
  simp only [bpC, List.cons.injEq, and_true] at hbb
  obtain ⟨rfl, rfl, rfl, rfl, rfl, rfl, rfl, rfl, rfl, rfl, rfl, rfl, rfl, rfl, rfl, rfl, rfl, rfl, rfl, rfl, rfl, rfl, rfl, rfl, rfl, rfl, rfl, rfl, rfl, rfl, rfl⟩ := hbb
  obtain ⟨x1, e1, q1, sb1⟩ := DataW.trod_string Try.underlying9 g1
  obtain rfl : c31 = .string x1 := (List.cons.inj (show [c31] = [.string x1] from e1)).1
  obtain ⟨x2, e2, _, wf2⟩ := DataW.trod_int Try.underlying3 g2
  obtain rfl : c32 = .int .i64 x2 := (List.cons.inj (show [c32] = [.int .i64 x2] from e2)).1
  obtain ⟨x3, e3, q3, sb3⟩ := DataW.trod_string Try.underlying9 g3
  obtain rfl : c33 = .string x3 := (List.cons.inj (show [c33] = [.string x3] from e3)).1
  obtain ⟨x4, e4, _, wf4⟩ := DataW.trod_int Try.underlying3 g4
  obtain rfl : c34 = .int .i64 x4 := (List.cons.inj (show [c34] = [.int .i64 x4] from e4)).1
  obtain ⟨r, hr, rfl, rfl, rfl, rfl, rfl, rfl, rfl, rfl⟩ := br_trod g5
  obtain ⟨x6, e6, _, wf6⟩ := DataW.trod_int Try.underlying3 g6
  obtain rfl : c43 = .int .i64 x6 := (List.cons.inj (show [c43] = [.int .i64 x6] from e6)).1
  obtain ⟨a, c, li, rfl, hlc, hcm, hin, hall⟩ := ins_cell g7
  refine ⟨⟨bb, x1, x2, x3, x4, r, x6⟩, a, c, li, ⟨⟨⟨hby, hr, fun x hx => (hall x hx).1⟩, hrg, ⟨bounds_i64 wf2, bounds_i64 wf4, bounds_i64 wf6⟩, fun x hx => (hall x hx).2⟩, hin, hlc, hcm, fun hw => ?_⟩, rfl⟩
  simp only [Prod.mk.injEq] at hx
  have hd : d = .agg [y0.1, y1.1, y2.1, y3.1, y4.1, y5.1, y6.1, y7.1] := hx.1
  rw [hd] at hw
  have hW : DataW.weights Try.prog 44 (.agg [y0.1, y1.1, y2.1, y3.1, y4.1, y5.1, y6.1, y7.1]) = DataW.weightsEach Try.prog [41, 9, 3, 9, 3, 37, 3, 42] [y0.1, y1.1, y2.1, y3.1, y4.1, y5.1, y6.1, y7.1] := by
    rw [DataW.weights, Try.underlying44]
    rfl
  rw [hW] at hw
  have h1 : y1.1 = .lit (.string x1.data.toList) := by rw [q1]
  have h3 : y3.1 = .lit (.string x3.data.toList) := by rw [q3]
  have w1 := hw x1.data.toList.length (DataW.weights_mem_each (j := 1) rfl rfl _ (by rw [h1]; simp [DataW.weights]))
  have w3 := hw x3.data.toList.length (DataW.weights_mem_each (j := 3) rfl rfl _ (by rw [h3]; simp [DataW.weights]))
  have l1 : x1.data.toList.length = x1.size := by simp
  have l3 : x3.data.toList.length = x3.size := by simp
  have := reachBytes_lt
  exact ⟨by show x1.size ≤ _; omega, by show x3.size ≤ _; omega⟩

end Go.Proofs.Ytnlphldkdglofaa

namespace Go.Proofs.Ytnlphldkdglofaa
open Go.ChangeShapes Go.WideShapes Go.ChangeAt Go.RowKit Go.Deep Go.Joins
set_option linter.unusedVariables false

theorem list2s {α : Type} (l : List α) (h : l.length = 2) : ∃ c0 c1, l = [c0, c1] := by
  match l, h with
  | [c0, c1], _ => exact ⟨c0, c1, rfl⟩

theorem list3s {α : Type} (l : List α) (h : l.length = 3) : ∃ c0 c1 c2, l = [c0, c1, c2] := by
  match l, h with
  | [c0, c1, c2], _ => exact ⟨c0, c1, c2, rfl⟩

theorem list4s {α : Type} (l : List α) (h : l.length = 4) : ∃ c0 c1 c2 c3, l = [c0, c1, c2, c3] := by
  match l, h with
  | [c0, c1, c2, c3], _ => exact ⟨c0, c1, c2, c3, rfl⟩

theorem list5s {α : Type} (l : List α) (h : l.length = 5) : ∃ c0 c1 c2 c3 c4, l = [c0, c1, c2, c3, c4] := by
  match l, h with
  | [c0, c1, c2, c3, c4], _ => exact ⟨c0, c1, c2, c3, c4, rfl⟩

theorem list9s {α : Type} (l : List α) (h : l.length = 9) : ∃ c0 c1 c2 c3 c4 c5 c6 c7 c8, l = [c0, c1, c2, c3, c4, c5, c6, c7, c8] := by
  match l, h with
  | [c0, c1, c2, c3, c4, c5, c6, c7, c8], _ => exact ⟨c0, c1, c2, c3, c4, c5, c6, c7, c8, rfl⟩

theorem list11s {α : Type} (l : List α) (h : l.length = 11) : ∃ c0 c1 c2 c3 c4 c5 c6 c7 c8 c9 c10, l = [c0, c1, c2, c3, c4, c5, c6, c7, c8, c9, c10] := by
  match l, h with
  | [c0, c1, c2, c3, c4, c5, c6, c7, c8, c9, c10], _ => exact ⟨c0, c1, c2, c3, c4, c5, c6, c7, c8, c9, c10, rfl⟩

set_option maxRecDepth 100000 in
theorem nm_trod {H : Type} {enc : TypeId × Value → H} {W : World} {base fuel : Nat} {sp : Nat → Bool} {held : Bool} {c0 c1 : Value} {y : DataW H × List MemPlace}
    (h : DataW.trod enc Try.prog W base sp held fuel 46 [c0, c1] = some y) : ∃ x : Nm, rgNm x ∧ [c0, c1] = (nmC x).toList := by
  have _h2 : Try.prog.cellsOf 3 = 1 := by kernel_rfl
  have _h3 : Try.prog.cellsOf 9 = 1 := by kernel_rfl
  obtain ⟨xs, n, _, hx, _, hlen, hg⟩ := DataW.trod_struct Try.underlying46 h
  obtain ⟨y0, y1, rfl⟩ := list2s xs hlen
  have g0 := hg 0 _ rfl
  have g1 := hg 1 _ rfl
  obtain ⟨x0, e0, _, wf0⟩ := DataW.trod_int Try.underlying3 g0
  obtain rfl : c0 = .int .i64 x0 := (List.cons.inj (show [c0] = [.int .i64 x0] from e0)).1
  obtain ⟨x1, e1, q1, sb1⟩ := DataW.trod_string Try.underlying9 g1
  obtain rfl : c1 = .string x1 := (List.cons.inj (show [c1] = [.string x1] from e1)).1
  exact ⟨⟨x0, x1⟩, ⟨bounds_i64 wf0, sb1⟩, rfl⟩

set_option maxRecDepth 100000 in
theorem cp_trod {H : Type} {enc : TypeId × Value → H} {W : World} {base fuel : Nat} {sp : Nat → Bool} {held : Bool} {c0 c1 : Value} {y : DataW H × List MemPlace}
    (h : DataW.trod enc Try.prog W base sp held fuel 80 [c0, c1] = some y) : ∃ x : Cp, rgCp x ∧ [c0, c1] = (cpC x).toList := by
  have _h2 : Try.prog.cellsOf 3 = 1 := by kernel_rfl
  have _h3 : Try.prog.cellsOf 9 = 1 := by kernel_rfl
  obtain ⟨xs, n, _, hx, _, hlen, hg⟩ := DataW.trod_struct Try.underlying80 h
  obtain ⟨y0, y1, rfl⟩ := list2s xs hlen
  have g0 := hg 0 _ rfl
  have g1 := hg 1 _ rfl
  obtain ⟨x0, e0, _, wf0⟩ := DataW.trod_int Try.underlying3 g0
  obtain rfl : c0 = .int .i64 x0 := (List.cons.inj (show [c0] = [.int .i64 x0] from e0)).1
  obtain ⟨x1, e1, _, wf1⟩ := DataW.trod_int Try.underlying3 g1
  obtain rfl : c1 = .int .i64 x1 := (List.cons.inj (show [c1] = [.int .i64 x1] from e1)).1
  exact ⟨⟨x0, x1⟩, ⟨bounds_i64 wf0, bounds_i64 wf1⟩, rfl⟩

/- A cell that reads as a list of capabilities. -/

set_option maxRecDepth 100000 in
theorem cps_cell {H : Type} {enc : TypeId × Value → H} {W : World} {fuel : Nat} {z0 : Value} {y : DataW H × List MemPlace}
    (hf : DataW.trod enc Try.prog W 0 (fun _ => true) true fuel 48 [z0] = some y) : ∃ (a : Option Addr) (c : Nat) (l : List Cp), z0 = .slice a l.length c ∧ l.length ≤ c ∧ c ≤ maxLen ∧ CpIn W a l ∧ ∀ x ∈ l, rgCp x := by
  have hs : Try.prog.underlying 48 = some (.slice 80) := by kernel_rfl
  have hc3 : Try.prog.cellsOf 80 = 2 := by kernel_rfl
  rcases open_slice hs hf with ⟨hc, hx⟩ | ⟨b, n, c, m, k, D, Pl, hc, hb, hl, hm, hmm, hx, hall⟩
  · simp at hc
    subst hc
    exact ⟨none, 0, [], rfl, Nat.le_refl _, by decide, Or.inl rfl, by simp⟩
  · simp at hc
    subst hc
    have hlm : n ≤ m := by rw [hmm]; split <;> omega
    have each : ∀ i, i < n → ∃ t : Cp, rgCp t ∧ ∀ (j : Nat) (x : Value), (cpC t)[j]? = some x → W.cell? (b.add (i * 2 + j)) = some x := by
      intro i hi
      obtain ⟨cs', h1, h2⟩ := hall i (by omega)
      rw [hc3] at h1
      obtain ⟨_, hlen, hcell⟩ := World.cells?_some h1
      obtain ⟨c0, c1, rfl⟩ := list2s cs' hlen
      obtain ⟨t, ht, he⟩ := cp_trod h2
      refine ⟨t, ht, fun j x hj => ?_⟩
      have hj2 : j < 2 := (Array.getElem?_eq_some_iff.1 hj).1
      have g := hcell j (by omega)
      rw [add_add] at g
      rw [g]
      have e2 : ([c0, c1] : List Value)[j]? = some x := by rw [he]; simpa using hj
      exact e2
    obtain ⟨z, hz⟩ := choose_lt each
    obtain ⟨bb, bo, bs⟩ := b
    rcases Nat.eq_zero_or_pos n with rfl | q0
    · exact ⟨some ⟨bb, bo, bs⟩, c, [], rfl, hl, hm, Or.inl rfl, by simp⟩
    have h0 := (hz 0 q0).2 0 _ rfl
    have hspot : bs = none := by simpa [Addr.add] using World.cell?_spot h0
    subst hspot
    refine ⟨some ⟨bb, bo, none⟩, c, (List.range n).map z, by simp, by simpa using hl, hm, Or.inr ⟨bb, bo, rfl, ?_, fun j hj k x hx => ?_⟩, ?_⟩
    · have := World.block_lt_of_cell? W _ h0
      simpa [Addr.add] using this
    · have hj' : j < n := by simpa using hj
      simp only [List.getElem_map, List.getElem_range] at hx
      have e0 := (hz j hj').2 k x hx
      rw [add_plain] at e0
      rw [Nat.add_assoc]
      exact e0
    · intro v hv
      obtain ⟨j, hj, rfl⟩ := List.mem_map.1 hv
      exact (hz j (List.mem_range.1 hj)).1


set_option maxRecDepth 100000 in
theorem mg_trod {H : Type} {enc : TypeId × Value → H} {W : World} {base fuel : Nat} {sp : Nat → Bool} {held : Bool} {c0 c1 c2 c3 c4 : Value} {y : DataW H × List MemPlace}
    (h : DataW.trod enc Try.prog W base sp held fuel 83 [c0, c1, c2, c3, c4] = some y) : ∃ x : Mg, rgMg x ∧ [c0, c1, c2, c3, c4] = (mgC x).toList := by
  have _h2 : Try.prog.cellsOf 3 = 1 := by kernel_rfl
  have _h3 : Try.prog.cellsOf 9 = 1 := by kernel_rfl
  have _h4 : Try.prog.cellsOf 46 = 2 := by kernel_rfl
  obtain ⟨xs, n, _, hx, _, hlen, hg⟩ := DataW.trod_struct Try.underlying83 h
  obtain ⟨y0, y1, y2, y3, rfl⟩ := list4s xs hlen
  have g0 := hg 0 _ rfl
  have g1 := hg 1 _ rfl
  have g2 := hg 2 _ rfl
  have g3 := hg 3 _ rfl
  obtain ⟨z0, rz0, ez0⟩ := nm_trod g0
  simp only [nmC, List.cons.injEq, and_true] at ez0
  obtain ⟨rfl, rfl⟩ := ez0
  obtain ⟨x1, e1, _, wf1⟩ := DataW.trod_int Try.underlying3 g1
  obtain rfl : c2 = .int .i64 x1 := (List.cons.inj (show [c2] = [.int .i64 x1] from e1)).1
  obtain ⟨x2, e2, _, wf2⟩ := DataW.trod_int Try.underlying3 g2
  obtain rfl : c3 = .int .i64 x2 := (List.cons.inj (show [c3] = [.int .i64 x2] from e2)).1
  obtain ⟨x3, e3, q3, sb3⟩ := DataW.trod_string Try.underlying9 g3
  obtain rfl : c4 = .string x3 := (List.cons.inj (show [c4] = [.string x3] from e3)).1
  exact ⟨⟨z0.su, z0.id, x1, x2, x3⟩, ⟨rz0.1, bounds_i64 wf1, bounds_i64 wf2, rz0.2, sb3⟩, rfl⟩

/- A cell that reads as a list of ways to manage. -/

set_option maxRecDepth 100000 in
theorem mgs_cell {H : Type} {enc : TypeId × Value → H} {W : World} {fuel : Nat} {z0 : Value} {y : DataW H × List MemPlace}
    (hf : DataW.trod enc Try.prog W 0 (fun _ => true) true fuel 49 [z0] = some y) : ∃ (a : Option Addr) (c : Nat) (l : List Mg), z0 = .slice a l.length c ∧ l.length ≤ c ∧ c ≤ maxLen ∧ MgIn W a l ∧ ∀ x ∈ l, rgMg x := by
  have hs : Try.prog.underlying 49 = some (.slice 83) := by kernel_rfl
  have hc3 : Try.prog.cellsOf 83 = 5 := by kernel_rfl
  rcases open_slice hs hf with ⟨hc, hx⟩ | ⟨b, n, c, m, k, D, Pl, hc, hb, hl, hm, hmm, hx, hall⟩
  · simp at hc
    subst hc
    exact ⟨none, 0, [], rfl, Nat.le_refl _, by decide, Or.inl rfl, by simp⟩
  · simp at hc
    subst hc
    have hlm : n ≤ m := by rw [hmm]; split <;> omega
    have each : ∀ i, i < n → ∃ t : Mg, rgMg t ∧ ∀ (j : Nat) (x : Value), (mgC t)[j]? = some x → W.cell? (b.add (i * 5 + j)) = some x := by
      intro i hi
      obtain ⟨cs', h1, h2⟩ := hall i (by omega)
      rw [hc3] at h1
      obtain ⟨_, hlen, hcell⟩ := World.cells?_some h1
      obtain ⟨c0, c1, c2, c3, c4, rfl⟩ := list5s cs' hlen
      obtain ⟨t, ht, he⟩ := mg_trod h2
      refine ⟨t, ht, fun j x hj => ?_⟩
      have hj2 : j < 5 := (Array.getElem?_eq_some_iff.1 hj).1
      have g := hcell j (by omega)
      rw [add_add] at g
      rw [g]
      have e2 : ([c0, c1, c2, c3, c4] : List Value)[j]? = some x := by rw [he]; simpa using hj
      exact e2
    obtain ⟨z, hz⟩ := choose_lt each
    obtain ⟨bb, bo, bs⟩ := b
    rcases Nat.eq_zero_or_pos n with rfl | q0
    · exact ⟨some ⟨bb, bo, bs⟩, c, [], rfl, hl, hm, Or.inl rfl, by simp⟩
    have h0 := (hz 0 q0).2 0 _ rfl
    have hspot : bs = none := by simpa [Addr.add] using World.cell?_spot h0
    subst hspot
    refine ⟨some ⟨bb, bo, none⟩, c, (List.range n).map z, by simp, by simpa using hl, hm, Or.inr ⟨bb, bo, rfl, ?_, fun j hj k x hx => ?_⟩, ?_⟩
    · have := World.block_lt_of_cell? W _ h0
      simpa [Addr.add] using this
    · have hj' : j < n := by simpa using hj
      simp only [List.getElem_map, List.getElem_range] at hx
      have e0 := (hz j hj').2 k x hx
      rw [add_plain] at e0
      rw [Nat.add_assoc]
      exact e0
    · intro v hv
      obtain ⟨j, hj, rfl⟩ := List.mem_map.1 hv
      exact (hz j (List.mem_range.1 hj)).1


set_option maxRecDepth 100000 in
theorem og_trod {H : Type} {enc : TypeId × Value → H} {W : World} {base fuel : Nat} {sp : Nat → Bool} {held : Bool} {c0 c1 c2 : Value} {y : DataW H × List MemPlace}
    (h : DataW.trod enc Try.prog W base sp held fuel 86 [c0, c1, c2] = some y) : ∃ x : Og, rgOg x ∧ [c0, c1, c2] = (ogC x).toList := by
  have _h2 : Try.prog.cellsOf 3 = 1 := by kernel_rfl
  have _h3 : Try.prog.cellsOf 9 = 1 := by kernel_rfl
  obtain ⟨xs, n, _, hx, _, hlen, hg⟩ := DataW.trod_struct Try.underlying86 h
  obtain ⟨y0, y1, y2, rfl⟩ := list3s xs hlen
  have g0 := hg 0 _ rfl
  have g1 := hg 1 _ rfl
  have g2 := hg 2 _ rfl
  obtain ⟨x0, e0, _, wf0⟩ := DataW.trod_int Try.underlying3 g0
  obtain rfl : c0 = .int .i64 x0 := (List.cons.inj (show [c0] = [.int .i64 x0] from e0)).1
  obtain ⟨x1, e1, _, wf1⟩ := DataW.trod_int Try.underlying3 g1
  obtain rfl : c1 = .int .i64 x1 := (List.cons.inj (show [c1] = [.int .i64 x1] from e1)).1
  obtain ⟨x2, e2, q2, sb2⟩ := DataW.trod_string Try.underlying9 g2
  obtain rfl : c2 = .string x2 := (List.cons.inj (show [c2] = [.string x2] from e2)).1
  exact ⟨⟨x0, x1, x2⟩, ⟨bounds_i64 wf0, bounds_i64 wf1, sb2⟩, rfl⟩

/- A cell that reads as a list of what organisations tell. -/

set_option maxRecDepth 100000 in
theorem ogs_cell {H : Type} {enc : TypeId × Value → H} {W : World} {fuel : Nat} {z0 : Value} {y : DataW H × List MemPlace}
    (hf : DataW.trod enc Try.prog W 0 (fun _ => true) true fuel 50 [z0] = some y) : ∃ (a : Option Addr) (c : Nat) (l : List Og), z0 = .slice a l.length c ∧ l.length ≤ c ∧ c ≤ maxLen ∧ OgIn W a l ∧ ∀ x ∈ l, rgOg x := by
  have hs : Try.prog.underlying 50 = some (.slice 86) := by kernel_rfl
  have hc3 : Try.prog.cellsOf 86 = 3 := by kernel_rfl
  rcases open_slice hs hf with ⟨hc, hx⟩ | ⟨b, n, c, m, k, D, Pl, hc, hb, hl, hm, hmm, hx, hall⟩
  · simp at hc
    subst hc
    exact ⟨none, 0, [], rfl, Nat.le_refl _, by decide, Or.inl rfl, by simp⟩
  · simp at hc
    subst hc
    have hlm : n ≤ m := by rw [hmm]; split <;> omega
    have each : ∀ i, i < n → ∃ t : Og, rgOg t ∧ ∀ (j : Nat) (x : Value), (ogC t)[j]? = some x → W.cell? (b.add (i * 3 + j)) = some x := by
      intro i hi
      obtain ⟨cs', h1, h2⟩ := hall i (by omega)
      rw [hc3] at h1
      obtain ⟨_, hlen, hcell⟩ := World.cells?_some h1
      obtain ⟨c0, c1, c2, rfl⟩ := list3s cs' hlen
      obtain ⟨t, ht, he⟩ := og_trod h2
      refine ⟨t, ht, fun j x hj => ?_⟩
      have hj2 : j < 3 := (Array.getElem?_eq_some_iff.1 hj).1
      have g := hcell j (by omega)
      rw [add_add] at g
      rw [g]
      have e2 : ([c0, c1, c2] : List Value)[j]? = some x := by rw [he]; simpa using hj
      exact e2
    obtain ⟨z, hz⟩ := choose_lt each
    obtain ⟨bb, bo, bs⟩ := b
    rcases Nat.eq_zero_or_pos n with rfl | q0
    · exact ⟨some ⟨bb, bo, bs⟩, c, [], rfl, hl, hm, Or.inl rfl, by simp⟩
    have h0 := (hz 0 q0).2 0 _ rfl
    have hspot : bs = none := by simpa [Addr.add] using World.cell?_spot h0
    subst hspot
    refine ⟨some ⟨bb, bo, none⟩, c, (List.range n).map z, by simp, by simpa using hl, hm, Or.inr ⟨bb, bo, rfl, ?_, fun j hj k x hx => ?_⟩, ?_⟩
    · have := World.block_lt_of_cell? W _ h0
      simpa [Addr.add] using this
    · have hj' : j < n := by simpa using hj
      simp only [List.getElem_map, List.getElem_range] at hx
      have e0 := (hz j hj').2 k x hx
      rw [add_plain] at e0
      rw [Nat.add_assoc]
      exact e0
    · intro v hv
      obtain ⟨j, hj, rfl⟩ := List.mem_map.1 hv
      exact (hz j (List.mem_range.1 hj)).1


theorem list1s {α : Type} (l : List α) (h : l.length = 1) : ∃ c0, l = [c0] := by
  match l, h with
  | [c0], _ => exact ⟨c0, rfl⟩

theorem st_trod {H : Type} {enc : TypeId × Value → H} {W : World} {base fuel : Nat} {sp : Nat → Bool} {held : Bool} {c0 : Value} {y : DataW H × List MemPlace}
    (h : DataW.trod enc Try.prog W base sp held fuel 9 [c0] = some y) : ∃ x : ByteArray, x.size ≤ maxLen ∧ [c0] = (stC x).toList := by
  obtain ⟨x1, e1, q1, sb1⟩ := DataW.trod_string Try.underlying9 h
  obtain rfl : c0 = .string x1 := (List.cons.inj (show [c0] = [.string x1] from e1)).1
  exact ⟨x1, sb1, rfl⟩
/- A cell that reads as a list of capabilities. -/

set_option maxRecDepth 100000 in
theorem sts_cell {H : Type} {enc : TypeId × Value → H} {W : World} {fuel : Nat} {z0 : Value} {y : DataW H × List MemPlace}
    (hf : DataW.trod enc Try.prog W 0 (fun _ => true) true fuel 47 [z0] = some y) : ∃ (a : Option Addr) (c : Nat) (l : List ByteArray), z0 = .slice a l.length c ∧ l.length ≤ c ∧ c ≤ maxLen ∧ StIn W a l ∧ ∀ x ∈ l, x.size ≤ maxLen := by
  have hs : Try.prog.underlying 47 = some (.slice 9) := by kernel_rfl
  have hc3 : Try.prog.cellsOf 9 = 1 := by kernel_rfl
  rcases open_slice hs hf with ⟨hc, hx⟩ | ⟨b, n, c, m, k, D, Pl, hc, hb, hl, hm, hmm, hx, hall⟩
  · simp at hc
    subst hc
    exact ⟨none, 0, [], rfl, Nat.le_refl _, by decide, Or.inl rfl, by simp⟩
  · simp at hc
    subst hc
    have hlm : n ≤ m := by rw [hmm]; split <;> omega
    have each : ∀ i, i < n → ∃ t : ByteArray, t.size ≤ maxLen ∧ ∀ (j : Nat) (x : Value), (stC t)[j]? = some x → W.cell? (b.add (i * 1 + j)) = some x := by
      intro i hi
      obtain ⟨cs', h1, h2⟩ := hall i (by omega)
      rw [hc3] at h1
      obtain ⟨_, hlen, hcell⟩ := World.cells?_some h1
      obtain ⟨c0, rfl⟩ := list1s cs' hlen
      obtain ⟨t, ht, he⟩ := st_trod h2
      refine ⟨t, ht, fun j x hj => ?_⟩
      have hj2 : j < 1 := (Array.getElem?_eq_some_iff.1 hj).1
      have g := hcell j (by omega)
      rw [add_add] at g
      rw [g]
      have e2 : ([c0] : List Value)[j]? = some x := by rw [he]; simpa using hj
      exact e2
    obtain ⟨z, hz⟩ := choose_lt each
    obtain ⟨bb, bo, bs⟩ := b
    rcases Nat.eq_zero_or_pos n with rfl | q0
    · exact ⟨some ⟨bb, bo, bs⟩, c, [], rfl, hl, hm, Or.inl rfl, by simp⟩
    have h0 := (hz 0 q0).2 0 _ rfl
    have hspot : bs = none := by simpa [Addr.add] using World.cell?_spot h0
    subst hspot
    refine ⟨some ⟨bb, bo, none⟩, c, (List.range n).map z, by simp, by simpa using hl, hm, Or.inr ⟨bb, bo, rfl, ?_, fun j hj k x hx => ?_⟩, ?_⟩
    · have := World.block_lt_of_cell? W _ h0
      simpa [Addr.add] using this
    · have hj' : j < n := by simpa using hj
      simp only [List.getElem_map, List.getElem_range] at hx
      have e0 := (hz j hj').2 k x hx
      rw [add_plain] at e0
      rw [Nat.add_assoc]
      exact e0
    · intro v hv
      obtain ⟨j, hj, rfl⟩ := List.mem_map.1 hv
      exact (hz j (List.mem_range.1 hj)).1


set_option maxRecDepth 100000 in
theorem open_ld {H : Type} {enc : TypeId × Value → H} {W : World} {base : Nat} {v : Value} {d : DataW H} {p : List MemPlace} (hval : Value.okWide Try.prog W .any base 52 v)
    (h : DataW.Trod enc Try.prog W 0 (fun _ => true) true 52 v d p) : ∃ (x : Ld) (q : LdA), (rgLd x ∧ LdIn W x q ∧ (∀ y ∈ x.de, y.size ≤ maxLen) ∧ (∀ y ∈ x.ho, y.size ≤ maxLen) ∧ (∀ y ∈ x.sy, y.size ≤ maxLen)) ∧ v = .agg (ldC x q) := by
  have hcn : Try.prog.cellsOf 52 = 11 := by kernel_rfl
  have _h1 : Try.prog.cellsOf 46 = 2 := by kernel_rfl
  have _h2 : Try.prog.cellsOf 3 = 1 := by kernel_rfl
  have _h3 : Try.prog.cellsOf 47 = 1 := by kernel_rfl
  have _h4 : Try.prog.cellsOf 48 = 1 := by kernel_rfl
  have _h5 : Try.prog.cellsOf 49 = 1 := by kernel_rfl
  have _h6 : Try.prog.cellsOf 50 = 1 := by kernel_rfl
  obtain ⟨cs, rfl, hsz⟩ := okWide_struct Try.underlying52 hval
  rw [hcn] at hsz
  obtain ⟨l⟩ := cs
  obtain ⟨c0, c1, c2, c3, c4, c5, c6, c7, c8, c9, c10, rfl⟩ := list11s l hsz
  obtain ⟨fuel, hf⟩ := h
  have h : DataW.trod enc Try.prog W 0 (fun _ => true) true fuel 52 [c0, c1, c2, c3, c4, c5, c6, c7, c8, c9, c10] = some (d, p) := by simpa [Value.cells] using hf
  obtain ⟨xs, n, _, hx, _, hlen, hg⟩ := DataW.trod_struct Try.underlying52 h
  obtain ⟨y0, y1, y2, y3, y4, y5, y6, y7, y8, rfl⟩ := list9s xs hlen
  have g0 := hg 0 _ rfl
  have g1 := hg 1 _ rfl
  have g2 := hg 2 _ rfl
  have g3 := hg 3 _ rfl
  have g4 := hg 4 _ rfl
  have g5 := hg 5 _ rfl
  have g6 := hg 6 _ rfl
  have g7 := hg 7 _ rfl
  have g8 := hg 8 _ rfl
  obtain ⟨z0, rz0, ez0⟩ := nm_trod g0
  simp only [nmC, List.cons.injEq, and_true] at ez0
  obtain ⟨rfl, rfl⟩ := ez0
  obtain ⟨z1, rz1, ez1⟩ := nm_trod g1
  simp only [nmC, List.cons.injEq, and_true] at ez1
  obtain ⟨rfl, rfl⟩ := ez1
  obtain ⟨x2, e2, _, wf2⟩ := DataW.trod_int Try.underlying3 g2
  obtain rfl : c4 = .int .i64 x2 := (List.cons.inj (show [c4] = [.int .i64 x2] from e2)).1
  obtain ⟨a3, k3, l3, rfl, hlc3, hcm3, hin3, hall3⟩ := sts_cell g3
  obtain ⟨a4, k4, l4, rfl, hlc4, hcm4, hin4, hall4⟩ := sts_cell g4
  obtain ⟨a5, k5, l5, rfl, hlc5, hcm5, hin5, hall5⟩ := sts_cell g5
  obtain ⟨a6, k6, l6, rfl, hlc6, hcm6, hin6, hall6⟩ := cps_cell g6
  obtain ⟨a7, k7, l7, rfl, hlc7, hcm7, hin7, hall7⟩ := mgs_cell g7
  obtain ⟨a8, k8, l8, rfl, hlc8, hcm8, hin8, hall8⟩ := ogs_cell g8
  exact ⟨⟨z0, z1, x2, l3, l4, l5, l6, l7, l8⟩, ⟨(a3, k3), (a4, k4), (a5, k5), (a6, k6), (a7, k7), (a8, k8)⟩, ⟨⟨rz0, rz1, bounds_i64 wf2, hall6, hall7, hall8, Nat.le_trans hlc3 hcm3, Nat.le_trans hlc4 hcm4, Nat.le_trans hlc5 hcm5, Nat.le_trans hlc6 hcm6, Nat.le_trans hlc7 hcm7, Nat.le_trans hlc8 hcm8⟩, ⟨hin3, hin4, hin5, hin6, hin7, hin8⟩, hall3, hall4, hall5⟩, rfl⟩

end Go.Proofs.Ytnlphldkdglofaa

namespace Go.Proofs.Ytnlphldkdglofaa
open Go.ChangeShapes Go.WideShapes Go.ChangeAt Go.RowKit Go.Deep Go.Joins
set_option linter.unusedVariables false

namespace VdAr


theorem nat_u8f {z : Int} (h : (Lit.int .u8 z).wf = true) : ∃ n : Nat, z = n ∧ n < 256 := by
  have := bounds_u8 h
  exact ⟨z.toNat, by omega, by omega⟩

set_option maxRecDepth 100000 in
theorem six_cells {H : Type} {enc : TypeId × Value → H} {W : World} {base fuel : Nat} {sp : Nat → Bool} {held : Bool} {c0 c1 c2 c3 c4 c5 : Value} {y : DataW H × List MemPlace}
    (h : DataW.trod enc Try.prog W base sp held fuel 24 [c0, c1, c2, c3, c4, c5] = some y) :
    ∃ x : Nat → Nat, (∀ i, x i < 256) ∧ c0 = .int .u8 (x 0) ∧ c1 = .int .u8 (x 1) ∧ c2 = .int .u8 (x 2) ∧ c3 = .int .u8 (x 3) ∧ c4 = .int .u8 (x 4) ∧ c5 = .int .u8 (x 5) := by
  have hc1 : Try.prog.cellsOf 5 = 1 := by kernel_rfl
  obtain ⟨xs, m, _, _, _, hl, hx⟩ := DataW.trod_array Try.underlying24 h
  rw [hc1] at hx
  have each : ∀ (i : Nat) (c : Value), i < 6 → ((([c0, c1, c2, c3, c4, c5] : List Value).drop (i * 1)).take 1) = [c] → ∃ n : Nat, c = .int .u8 n ∧ n < 256 := by
    intro i c hi hc
    have h1 := hx i hi
    rw [hc] at h1
    obtain ⟨y, hy⟩ : ∃ y, xs[i]? = some y := ⟨xs[i]'(by omega), List.getElem?_eq_getElem _⟩
    rw [hy] at h1
    obtain ⟨z, e0, _, hw⟩ := DataW.trod_int Try.underlying5 h1
    simp only [List.cons.injEq, and_true] at e0
    obtain ⟨n, rfl, hn⟩ := nat_u8f hw
    exact ⟨n, e0, hn⟩
  obtain ⟨n0, rfl, h0⟩ := each 0 c0 (by omega) rfl
  obtain ⟨n1, rfl, h1⟩ := each 1 c1 (by omega) rfl
  obtain ⟨n2, rfl, h2⟩ := each 2 c2 (by omega) rfl
  obtain ⟨n3, rfl, h3⟩ := each 3 c3 (by omega) rfl
  obtain ⟨n4, rfl, h4⟩ := each 4 c4 (by omega) rfl
  obtain ⟨n5, rfl, h5⟩ := each 5 c5 (by omega) rfl
  refine ⟨fun i => if i = 0 then n0 else if i = 1 then n1 else if i = 2 then n2 else if i = 3 then n3 else if i = 4 then n4 else n5, fun i => ?_, rfl, rfl, rfl, rfl, rfl, rfl⟩
  dsimp only
  split
  · exact h0
  split
  · exact h1
  split
  · exact h2
  split
  · exact h3
  split
  · exact h4
  exact h5

set_option maxRecDepth 100000 in
theorem four_cells {H : Type} {enc : TypeId × Value → H} {W : World} {base fuel : Nat} {sp : Nat → Bool} {held : Bool} {c0 c1 c2 c3 : Value} {y : DataW H × List MemPlace}
    (h : DataW.trod enc Try.prog W base sp held fuel 28 [c0, c1, c2, c3] = some y) :
    ∃ x : Nat → Nat, (∀ i, x i < 256) ∧ c0 = .int .u8 (x 0) ∧ c1 = .int .u8 (x 1) ∧ c2 = .int .u8 (x 2) ∧ c3 = .int .u8 (x 3) := by
  have hc1 : Try.prog.cellsOf 5 = 1 := by kernel_rfl
  obtain ⟨xs, m, _, _, _, hl, hx⟩ := DataW.trod_array Try.underlying28 h
  rw [hc1] at hx
  have each : ∀ (i : Nat) (c : Value), i < 4 → ((([c0, c1, c2, c3] : List Value).drop (i * 1)).take 1) = [c] → ∃ n : Nat, c = .int .u8 n ∧ n < 256 := by
    intro i c hi hc
    have h1 := hx i hi
    rw [hc] at h1
    obtain ⟨y, hy⟩ : ∃ y, xs[i]? = some y := ⟨xs[i]'(by omega), List.getElem?_eq_getElem _⟩
    rw [hy] at h1
    obtain ⟨z, e0, _, hw⟩ := DataW.trod_int Try.underlying5 h1
    simp only [List.cons.injEq, and_true] at e0
    obtain ⟨n, rfl, hn⟩ := nat_u8f hw
    exact ⟨n, e0, hn⟩
  obtain ⟨n0, rfl, h0⟩ := each 0 c0 (by omega) rfl
  obtain ⟨n1, rfl, h1⟩ := each 1 c1 (by omega) rfl
  obtain ⟨n2, rfl, h2⟩ := each 2 c2 (by omega) rfl
  obtain ⟨n3, rfl, h3⟩ := each 3 c3 (by omega) rfl
  refine ⟨fun i => if i = 0 then n0 else if i = 1 then n1 else if i = 2 then n2 else n3, fun i => ?_, rfl, rfl, rfl, rfl⟩
  dsimp only
  split
  · exact h0
  split
  · exact h1
  split
  · exact h2
  exact h3

theorem c6_list {α : Type} (l : List α) (h : l.length = 6) : ∃ a b c d e f, l = [a, b, c, d, e, f] := by
  match l, h with
  | [a, b, c, d, e, f], _ => exact ⟨a, b, c, d, e, f, rfl⟩

set_option maxRecDepth 100000 in
theorem open_c6 {H : Type} {enc : TypeId × Value → H} {W : World} {base : Nat} {v : Value} {d : DataW H} {p : List MemPlace} (hval : Value.okWide Try.prog W .any base 24 v)
    (h : DataW.Trod enc Try.prog W 0 (fun _ => true) true 24 v d p) : ∃ x : Nat → Nat, (∀ i, x i < 256) ∧ v = .agg (c6 x) := by
  have hc6 : Try.prog.cellsOf 24 = 6 := by kernel_rfl
  obtain ⟨cs, rfl, hsz, _⟩ : ∃ cs, v = .agg cs ∧ cs.size = Try.prog.cellsOf 24 ∧ Row.okWide Try.prog W .any base 24 cs := by
    simpa [Value.okWide, Try.underlying24] using hval
  rw [hc6] at hsz
  obtain ⟨l⟩ := cs
  obtain ⟨c0, c1, c2, c3, c4, c5, rfl⟩ := c6_list l hsz
  obtain ⟨fuel, hf⟩ := h
  obtain ⟨x, hx, rfl, rfl, rfl, rfl, rfl, rfl⟩ := six_cells (show DataW.trod enc Try.prog W 0 (fun _ => true) true fuel 24 [c0, c1, c2, c3, c4, c5] = some _ by simpa [Value.cells] using hf)
  exact ⟨x, hx, rfl⟩

theorem ar_list {α : Type} (l : List α) (h : l.length = 21) : ∃ c0 c1 c2 c3 c4 c5 c6 c7 c8 c9 c10 c11 c12 c13 c14 c15 c16 c17 c18 c19 c20, l = [c0, c1, c2, c3, c4, c5, c6, c7, c8, c9, c10, c11, c12, c13, c14, c15, c16, c17, c18, c19, c20] := by
  match l, h with
  | [c0, c1, c2, c3, c4, c5, c6, c7, c8, c9, c10, c11, c12, c13, c14, c15, c16, c17, c18, c19, c20], _ => exact ⟨c0, c1, c2, c3, c4, c5, c6, c7, c8, c9, c10, c11, c12, c13, c14, c15, c16, c17, c18, c19, c20, rfl⟩

theorem ar_fields {α : Type} (l : List α) (h : l.length = 5) : ∃ y0 y1 y2 y3 y4, l = [y0, y1, y2, y3, y4] := by
  match l, h with
  | [y0, y1, y2, y3, y4], _ => exact ⟨y0, y1, y2, y3, y4, rfl⟩

set_option maxRecDepth 100000 in
theorem trd_ar {H : Type} {enc : TypeId × Value → H} {W : World} {fuel : Nat} {cs : List Value} {d : DataW H} {p : List MemPlace} (hsz : cs.length = 21)
    (hf : DataW.trod enc Try.prog W 0 (fun _ => true) true fuel 30 cs = some (d, p)) : ∃ a : Ar, ArB a ∧ cs = (arC a).toList := by
  have _h_4uint8 : Try.prog.cellsOf 28 = 4 := by kernel_rfl
  have _h_apiAddr : Try.prog.cellsOf 24 = 6 := by kernel_rfl
  have _h_int : Try.prog.cellsOf 3 = 1 := by kernel_rfl
  have hcn : Try.prog.cellsOf 30 = 21 := by kernel_rfl
  obtain ⟨c0, c1, c2, c3, c4, c5, c6, c7, c8, c9, c10, c11, c12, c13, c14, c15, c16, c17, c18, c19, c20, rfl⟩ := ar_list cs hsz
  obtain ⟨xs, n, _, hx, _, hlen, hg⟩ := DataW.trod_struct Try.underlying30 hf
  obtain ⟨y0, y1, y2, y3, y4, rfl⟩ := ar_fields xs hlen
  have g0 := hg 0 _ rfl
  have g1 := hg 1 _ rfl
  have g2 := hg 2 _ rfl
  have g3 := hg 3 _ rfl
  have g4 := hg 4 _ rfl
  obtain ⟨x0, e0, _, wf0⟩ := DataW.trod_int Try.underlying3 g0
  obtain rfl : c0 = .int .i64 x0 := (List.cons.inj (show [c0] = [.int .i64 x0] from e0)).1
  obtain ⟨x1, hx1, rfl, rfl, rfl, rfl, rfl, rfl⟩ := six_cells g1
  obtain ⟨x2, hx2, rfl, rfl, rfl, rfl, rfl, rfl⟩ := six_cells g2
  obtain ⟨x3, hx3, rfl, rfl, rfl, rfl⟩ := four_cells g3
  obtain ⟨x4, hx4, rfl, rfl, rfl, rfl⟩ := four_cells g4
  exact ⟨⟨x0, x1, x2, x3, x4⟩, ⟨hx1, hx2, hx3, hx4⟩, rfl⟩

end VdAr

namespace VdPa


set_option maxRecDepth 100000 in
theorem eight_cells {H : Type} {enc : TypeId × Value → H} {W : World} {base fuel : Nat} {sp : Nat → Bool} {held : Bool} {c0 c1 c2 c3 c4 c5 c6 c7 : Value} {y : DataW H × List MemPlace}
    (h : DataW.trod enc Try.prog W base sp held fuel 31 [c0, c1, c2, c3, c4, c5, c6, c7] = some y) :
    ∃ x : Nat → Int, (∀ i, (Lit.int .i64 (x i)).wf = true) ∧ c0 = .int .i64 (x 0) ∧ c1 = .int .i64 (x 1) ∧ c2 = .int .i64 (x 2) ∧ c3 = .int .i64 (x 3) ∧ c4 = .int .i64 (x 4) ∧ c5 = .int .i64 (x 5) ∧ c6 = .int .i64 (x 6) ∧ c7 = .int .i64 (x 7) := by
  have hc1 : Try.prog.cellsOf 3 = 1 := by kernel_rfl
  obtain ⟨xs, m, _, _, _, hl, hx⟩ := DataW.trod_array Try.underlying31 h
  rw [hc1] at hx
  have each : ∀ (i : Nat) (c : Value), i < 8 → ((([c0, c1, c2, c3, c4, c5, c6, c7] : List Value).drop (i * 1)).take 1) = [c] → ∃ n : Int, c = .int .i64 n ∧ (Lit.int .i64 n).wf = true := by
    intro i c hi hc
    have h1 := hx i hi
    rw [hc] at h1
    obtain ⟨y, hy⟩ : ∃ y, xs[i]? = some y := ⟨xs[i]'(by omega), List.getElem?_eq_getElem _⟩
    rw [hy] at h1
    obtain ⟨z, e0, _, hw⟩ := DataW.trod_int Try.underlying3 h1
    simp only [List.cons.injEq, and_true] at e0
    exact ⟨z, e0, hw⟩
  obtain ⟨n0, rfl, h0⟩ := each 0 c0 (by omega) rfl
  obtain ⟨n1, rfl, h1⟩ := each 1 c1 (by omega) rfl
  obtain ⟨n2, rfl, h2⟩ := each 2 c2 (by omega) rfl
  obtain ⟨n3, rfl, h3⟩ := each 3 c3 (by omega) rfl
  obtain ⟨n4, rfl, h4⟩ := each 4 c4 (by omega) rfl
  obtain ⟨n5, rfl, h5⟩ := each 5 c5 (by omega) rfl
  obtain ⟨n6, rfl, h6⟩ := each 6 c6 (by omega) rfl
  obtain ⟨n7, rfl, h7⟩ := each 7 c7 (by omega) rfl
  refine ⟨fun i => if i = 0 then n0 else if i = 1 then n1 else if i = 2 then n2 else if i = 3 then n3 else if i = 4 then n4 else if i = 5 then n5 else if i = 6 then n6 else n7, fun i => ?_, rfl, rfl, rfl, rfl, rfl, rfl, rfl, rfl⟩
  dsimp only
  split
  · exact h0
  split
  · exact h1
  split
  · exact h2
  split
  · exact h3
  split
  · exact h4
  split
  · exact h5
  split
  · exact h6
  exact h7

theorem pa_list {α : Type} (l : List α) (h : l.length = 10) : ∃ c0 c1 c2 c3 c4 c5 c6 c7 c8 c9, l = [c0, c1, c2, c3, c4, c5, c6, c7, c8, c9] := by
  match l, h with
  | [c0, c1, c2, c3, c4, c5, c6, c7, c8, c9], _ => exact ⟨c0, c1, c2, c3, c4, c5, c6, c7, c8, c9, rfl⟩

theorem pa_fields {α : Type} (l : List α) (h : l.length = 3) : ∃ y0 y1 y2, l = [y0, y1, y2] := by
  match l, h with
  | [y0, y1, y2], _ => exact ⟨y0, y1, y2, rfl⟩

set_option maxRecDepth 100000 in
theorem trd_pa {H : Type} {enc : TypeId × Value → H} {W : World} {fuel : Nat} {cs : List Value} {d : DataW H} {p : List MemPlace} (hsz : cs.length = 10)
    (hf : DataW.trod enc Try.prog W 0 (fun _ => true) true fuel 33 cs = some (d, p)) : ∃ a : Pa, cs = (paC a).toList := by
  have _h_8int : Try.prog.cellsOf 31 = 8 := by kernel_rfl
  have _h_bool : Try.prog.cellsOf 4 = 1 := by kernel_rfl
  have _h_int : Try.prog.cellsOf 3 = 1 := by kernel_rfl
  have hcn : Try.prog.cellsOf 33 = 10 := by kernel_rfl
  obtain ⟨c0, c1, c2, c3, c4, c5, c6, c7, c8, c9, rfl⟩ := pa_list cs hsz
  obtain ⟨xs, n, _, hx, _, hlen, hg⟩ := DataW.trod_struct Try.underlying33 hf
  obtain ⟨y0, y1, y2, rfl⟩ := pa_fields xs hlen
  have g0 := hg 0 _ rfl
  have g1 := hg 1 _ rfl
  have g2 := hg 2 _ rfl
  obtain ⟨x0, e0, _⟩ := DataW.trod_bool Try.underlying4 g0
  obtain rfl : c0 = .bool x0 := (List.cons.inj (show [c0] = [.bool x0] from e0)).1
  obtain ⟨x1, e1, _, wf1⟩ := DataW.trod_int Try.underlying3 g1
  obtain rfl : c1 = .int .i64 x1 := (List.cons.inj (show [c1] = [.int .i64 x1] from e1)).1
  obtain ⟨x2, hx2, rfl, rfl, rfl, rfl, rfl, rfl, rfl, rfl⟩ := eight_cells g2
  exact ⟨⟨x0, x1, x2⟩, rfl⟩

end VdPa

namespace VdFr


set_option maxRecDepth 100000 in
theorem tag_under : ∃ f0 f1 f2 f3 : Field, Try.prog.underlying 90 = some (.struct #[f0, f1, f2, f3]) ∧ (f0.type = 4 ∧ f1.type = 3 ∧ f2.type = 4 ∧ f3.type = 3) ∧ f0.offset = 0 ∧ f1.offset = 1 ∧ f2.offset = 2 ∧ f3.offset = 3 :=
  ⟨_, _, _, _, (by kernel_rfl : Try.prog.underlying 90 = some (.struct #[{ name := "S", type := 4, offset := 0, embedded := false, tag := "", pkgPath := "", byteOffset := 0 }, { name := "Pcp", type := 3, offset := 1, embedded := false, tag := "", pkgPath := "", byteOffset := 8 }, { name := "Dei", type := 4, offset := 2, embedded := false, tag := "", pkgPath := "", byteOffset := 16 }, { name := "Vid", type := 3, offset := 3, embedded := false, tag := "", pkgPath := "", byteOffset := 24 }])), ⟨rfl, rfl, rfl, rfl⟩, rfl, rfl, rfl, rfl⟩

/- Four cells that read as a tag. -/

set_option maxRecDepth 100000 in
theorem tag_cells {H : Type} {enc : TypeId × Value → H} {W : World} {base fuel : Nat} {sp : Nat → Bool} {held : Bool} {c0 c1 c2 c3 : Value} {y : DataW H × List MemPlace}
    (h : DataW.trod enc Try.prog W base sp held fuel 90 [c0, c1, c2, c3] = some y) : ∃ t : Tg, c0 = .bool t.s ∧ c1 = .int .i64 t.p ∧ c2 = .bool t.d ∧ c3 = .int .i64 t.v ∧ (Lit.int .i64 t.p).wf = true ∧ (Lit.int .i64 t.v).wf = true := by
  obtain ⟨f0, f1, f2, f3, hu, ⟨t0, t1, t2, t3⟩, o0, o1, o2, o3⟩ := tag_under
  have hb1 : Try.prog.cellsOf 4 = 1 := by kernel_rfl
  have hi1 : Try.prog.cellsOf 3 = 1 := by kernel_rfl
  obtain ⟨y0, y1, y2, y3, n, _, _, h0, h1, h2, h3⟩ := trod_struct4 hu h
  rw [o0, t0, hb1] at h0
  rw [o1, t1, hi1] at h1
  rw [o2, t2, hb1] at h2
  rw [o3, t3, hi1] at h3
  obtain ⟨s, e0, _⟩ := DataW.trod_bool Try.underlying4 h0
  obtain ⟨p, e1, _, w1⟩ := DataW.trod_int Try.underlying3 h1
  obtain ⟨d, e2, _⟩ := DataW.trod_bool Try.underlying4 h2
  obtain ⟨v, e3, _, w3⟩ := DataW.trod_int Try.underlying3 h3
  simp at e0 e1 e2 e3
  exact ⟨⟨s, p, d, v⟩, e0, e1, e2, e3, w1, w3⟩

instance : Inhabited Tg := ⟨⟨false, 0, false, 0⟩⟩

theorem list4 {α : Type} (l : List α) (h : (⟨l⟩ : Array α).size = 4) : ∃ a b c d, l = [a, b, c, d] := by
  match l, h with
  | [a, b, c, d], _ => exact ⟨a, b, c, d, rfl⟩



theorem nat_u8f {z : Int} (h : (Lit.int .u8 z).wf = true) : ∃ n : Nat, z = n ∧ n < 256 := by
  have := bounds_u8 h
  exact ⟨z.toNat, by omega, by omega⟩

/- Six cells that read as an address. -/

set_option maxRecDepth 100000 in
theorem six_cells {H : Type} {enc : TypeId × Value → H} {W : World} {base fuel : Nat} {sp : Nat → Bool} {held : Bool} {c0 c1 c2 c3 c4 c5 : Value} {y : DataW H × List MemPlace}
    (h : DataW.trod enc Try.prog W base sp held fuel 24 [c0, c1, c2, c3, c4, c5] = some y) :
    ∃ x : Nat → Nat, (∀ i, x i < 256) ∧ c0 = .int .u8 (x 0) ∧ c1 = .int .u8 (x 1) ∧ c2 = .int .u8 (x 2) ∧ c3 = .int .u8 (x 3) ∧ c4 = .int .u8 (x 4) ∧ c5 = .int .u8 (x 5) := by
  have hc1 : Try.prog.cellsOf 5 = 1 := by kernel_rfl
  obtain ⟨xs, m, _, _, _, hl, hx⟩ := DataW.trod_array Try.underlying24 h
  rw [hc1] at hx
  have each : ∀ (i : Nat) (c : Value), i < 6 → ((([c0, c1, c2, c3, c4, c5] : List Value).drop (i * 1)).take 1) = [c] → ∃ n : Nat, c = .int .u8 n ∧ n < 256 := by
    intro i c hi hc
    have h1 := hx i hi
    rw [hc] at h1
    obtain ⟨y, hy⟩ : ∃ y, xs[i]? = some y := ⟨xs[i]'(by omega), List.getElem?_eq_getElem _⟩
    rw [hy] at h1
    obtain ⟨z, e0, _, hw⟩ := DataW.trod_int Try.underlying5 h1
    simp only [List.cons.injEq, and_true] at e0
    obtain ⟨n, rfl, hn⟩ := nat_u8f hw
    exact ⟨n, e0, hn⟩
  obtain ⟨n0, rfl, h0⟩ := each 0 c0 (by omega) rfl
  obtain ⟨n1, rfl, h1⟩ := each 1 c1 (by omega) rfl
  obtain ⟨n2, rfl, h2⟩ := each 2 c2 (by omega) rfl
  obtain ⟨n3, rfl, h3⟩ := each 3 c3 (by omega) rfl
  obtain ⟨n4, rfl, h4⟩ := each 4 c4 (by omega) rfl
  obtain ⟨n5, rfl, h5⟩ := each 5 c5 (by omega) rfl
  refine ⟨fun i => if i = 0 then n0 else if i = 1 then n1 else if i = 2 then n2 else if i = 3 then n3 else if i = 4 then n4 else n5, fun i => ?_, rfl, rfl, rfl, rfl, rfl, rfl⟩
  dsimp only
  split
  · exact h0
  split
  · exact h1
  split
  · exact h2
  split
  · exact h3
  split
  · exact h4
  · exact h5

/- A cell that reads as a list of tags. -/

set_option maxRecDepth 100000 in
theorem tags_cell {H : Type} {enc : TypeId × Value → H} {W : World} {fuel : Nat} {c0 : Value} {y : DataW H × List MemPlace}
    (hf : DataW.trod enc Try.prog W 0 (fun _ => true) true fuel 25 [c0] = some y) : ∃ (a : Option Addr) (c : Nat) (l : List Tg), c0 = .slice a l.length c ∧ l.length ≤ c ∧ c ≤ maxLen ∧ TagsIn W a l ∧ (c = 0 ∨ ∃ es sp, y.1 = .slice es sp ∧ es.length + sp.length = c) := by
  have hs : Try.prog.underlying 25 = some (.slice 90) := by kernel_rfl
  have hc4 : Try.prog.cellsOf 90 = 4 := by kernel_rfl
  rcases open_slice hs hf with ⟨hc, hx⟩ | ⟨b, n, c, m, k, D, Pl, hc, hb, hl, hm, hmm, hx, hall⟩
  · simp at hc
    subst hc
    exact ⟨none, 0, [], rfl, Nat.le_refl _, by decide, Or.inl rfl, Or.inl rfl⟩
  · simp at hc
    subst hc
    have hmc : m = c := by simpa using hmm
    subst hmc
    have each : ∀ i, i < n → ∃ t : Tg, W.cell? (b.add (i * 4)) = some (.bool t.s) ∧ W.cell? (b.add (i * 4 + 1)) = some (.int .i64 t.p) ∧ W.cell? (b.add (i * 4 + 2)) = some (.bool t.d) ∧ W.cell? (b.add (i * 4 + 3)) = some (.int .i64 t.v) := by
      intro i hi
      obtain ⟨cs', h1, h2⟩ := hall i (by omega)
      rw [hc4] at h1
      obtain ⟨_, hlen, hcell⟩ := World.cells?_some h1
      match cs', hlen, hcell, h2 with
      | [c0, c1, c2, c3], _, hcell, h2 =>
        obtain ⟨t, rfl, rfl, rfl, rfl, _, _⟩ := tag_cells h2
        have g0 := hcell 0 (by omega)
        have g1 := hcell 1 (by omega)
        have g2 := hcell 2 (by omega)
        have g3 := hcell 3 (by omega)
        rw [add_add] at g0 g1 g2 g3
        exact ⟨t, g0, g1, g2, g3⟩
    have hw : ∃ es sp, y.1 = .slice es sp ∧ es.length + sp.length = m := by
      rw [hx]
      refine ⟨_, _, rfl, ?_⟩
      simp
      omega
    obtain ⟨z, hz⟩ := choose_lt each
    obtain ⟨bb, bo, bs⟩ := b
    rcases Nat.eq_zero_or_pos n with rfl | q0
    · exact ⟨some ⟨bb, bo, bs⟩, m, [], rfl, hl, hm, Or.inl rfl, Or.inr hw⟩
    have h0 := (hz 0 q0).1
    have hspot : bs = none := by simpa [Addr.add] using World.cell?_spot h0
    subst hspot
    refine ⟨some ⟨bb, bo, none⟩, m, (List.range n).map z, by simp, by simpa using hl, hm, Or.inr ⟨bb, bo, rfl, ?_, fun j hj => ?_⟩, Or.inr hw⟩
    · have := World.block_lt_of_cell? W _ h0
      simpa [Addr.add] using this
    · have hj' : j < n := by simpa using hj
      obtain ⟨g0, g1, g2, g3⟩ := hz j hj'
      simp only [Addr.add_lit, List.getElem_map, List.getElem_range] at *
      exact ⟨g0, by rw [Nat.add_assoc]; exact g1, by rw [Nat.add_assoc]; exact g2, by rw [Nat.add_assoc]; exact g3⟩

theorem list21 {α : Type} (l : List α) (h : l.length = 21) : ∃ c0 c1 c2 c3 c4 c5 c6 c7 c8 c9 c10 c11 c12 c13 c14 c15 c16 c17 c18 c19 c20, l = [c0, c1, c2, c3, c4, c5, c6, c7, c8, c9, c10, c11, c12, c13, c14, c15, c16, c17, c18, c19, c20] := by
  match l, h with
  | [c0, c1, c2, c3, c4, c5, c6, c7, c8, c9, c10, c11, c12, c13, c14, c15, c16, c17, c18, c19, c20], _ => exact ⟨c0, c1, c2, c3, c4, c5, c6, c7, c8, c9, c10, c11, c12, c13, c14, c15, c16, c17, c18, c19, c20, rfl⟩

theorem list11 {α : Type} (l : List α) (h : l.length = 11) : ∃ y0 y1 y2 y3 y4 y5 y6 y7 y8 y9 y10, l = [y0, y1, y2, y3, y4, y5, y6, y7, y8, y9, y10] := by
  match l, h with
  | [y0, y1, y2, y3, y4, y5, y6, y7, y8, y9, y10], _ => exact ⟨y0, y1, y2, y3, y4, y5, y6, y7, y8, y9, y10, rfl⟩

set_option maxRecDepth 100000 in
theorem trd_frame {H : Type} {enc : TypeId × Value → H} {W : World} {fuel : Nat} {cs : List Value} {d : DataW H} {p : List MemPlace} (hsz : cs.length = 21)
    (hf : DataW.trod enc Try.prog W 0 (fun _ => true) true fuel 27 cs = some (d, p)) : ∃ f : Fr, cs = (frC f).toList ∧ FrArg W f ∧ ((∀ n ∈ d.weights Try.prog 27, n ≤ reachBytes) → f.tl.length ≤ reachBytes ∧ f.bo.size ≤ reachBytes) := by
  have hb1 : Try.prog.cellsOf 9 = 1 := by kernel_rfl
  have hi1 : Try.prog.cellsOf 3 = 1 := by kernel_rfl
  have ha6 : Try.prog.cellsOf 24 = 6 := by kernel_rfl
  have ht1 : Try.prog.cellsOf 25 = 1 := by kernel_rfl
  have hc21 : Try.prog.cellsOf 27 = 21 := by kernel_rfl
  have hby : Try.prog.bytesOf 90 = 32 := by kernel_rfl
  have hs : Try.prog.underlying 25 = some (.slice 90) := by kernel_rfl
  obtain ⟨c0, c1, c2, c3, c4, c5, c6, c7, c8, c9, c10, c11, c12, c13, c14, c15, c16, c17, c18, c19, c20, rfl⟩ := list21 cs hsz
  obtain ⟨xs, n, _, hx, _, hlen, hg⟩ := DataW.trod_struct Try.underlying27 hf
  obtain ⟨y0, y1, y2, y3, y4, y5, y6, y7, y8, y9, y10, rfl⟩ := list11 xs hlen
  have g0 := hg 0 _ rfl
  have g1 := hg 1 _ rfl
  have g2 := hg 2 _ rfl
  have g3 := hg 3 _ rfl
  have g4 := hg 4 _ rfl
  have g5 := hg 5 _ rfl
  have g6 := hg 6 _ rfl
  have g7 := hg 7 _ rfl
  have g8 := hg 8 _ rfl
  have g9 := hg 9 _ rfl
  have g10 := hg 10 _ rfl
  obtain ⟨x, hxl, rfl, rfl, rfl, rfl, rfl, rfl⟩ := six_cells g0
  obtain ⟨u, hul, rfl, rfl, rfl, rfl, rfl, rfl⟩ := six_cells g1
  obtain ⟨a, tl, tc, rfl, hlc, hcm, hin, hwt⟩ := tags_cell g2
  obtain ⟨k, e3, _, _⟩ := DataW.trod_int Try.underlying3 g3
  obtain ⟨t, e4, _, _⟩ := DataW.trod_int Try.underlying3 g4
  obtain ⟨da, e5, _, _⟩ := DataW.trod_int Try.underlying3 g5
  obtain ⟨sa, e6, _, _⟩ := DataW.trod_int Try.underlying3 g6
  obtain ⟨ct, e7, _, _⟩ := DataW.trod_int Try.underlying3 g7
  obtain ⟨ou, e8, _, _⟩ := DataW.trod_int Try.underlying3 g8
  obtain ⟨pi, e9, _, _⟩ := DataW.trod_int Try.underlying3 g9
  obtain ⟨bo, e10, hy10, hbl⟩ := DataW.trod_string Try.underlying9 g10
  obtain rfl : c13 = .int .i64 k := (List.cons.inj (show [c13] = [.int .i64 k] from e3)).1
  obtain rfl : c14 = .int .i64 t := (List.cons.inj (show [c14] = [.int .i64 t] from e4)).1
  obtain rfl : c15 = .int .i64 da := (List.cons.inj (show [c15] = [.int .i64 da] from e5)).1
  obtain rfl : c16 = .int .i64 sa := (List.cons.inj (show [c16] = [.int .i64 sa] from e6)).1
  obtain rfl : c17 = .int .i64 ct := (List.cons.inj (show [c17] = [.int .i64 ct] from e7)).1
  obtain rfl : c18 = .int .i64 ou := (List.cons.inj (show [c18] = [.int .i64 ou] from e8)).1
  obtain rfl : c19 = .int .i64 pi := (List.cons.inj (show [c19] = [.int .i64 pi] from e9)).1
  obtain rfl : c20 = .string bo := (List.cons.inj (show [c20] = [.string bo] from e10)).1
  refine ⟨⟨x, u, a, tc, tl, k, t, da, sa, ct, ou, pi, bo⟩, rfl, ⟨hin, hlc, hcm, hbl⟩, fun hw => ?_⟩
  simp only [Prod.mk.injEq] at hx
  have hd : d = .agg [y0.1, y1.1, y2.1, y3.1, y4.1, y5.1, y6.1, y7.1, y8.1, y9.1, y10.1] := hx.1
  rw [hd] at hw
  have hW : DataW.weights Try.prog 27 (.agg [y0.1, y1.1, y2.1, y3.1, y4.1, y5.1, y6.1, y7.1, y8.1, y9.1, y10.1]) = DataW.weightsEach Try.prog [24, 24, 25, 3, 3, 3, 3, 3, 3, 3, 9] [y0.1, y1.1, y2.1, y3.1, y4.1, y5.1, y6.1, y7.1, y8.1, y9.1, y10.1] := by
    rw [DataW.weights, Try.underlying27]
    rfl
  rw [hW] at hw
  constructor
  · show tc.length ≤ reachBytes
    rcases hwt with h0 | ⟨es, sp, hy, hl⟩
    · exact Nat.le_trans hlc (by rw [h0]; exact Nat.zero_le _)
    · have := hw ((es.length + sp.length) * 32) (DataW.weights_mem_each (j := 2) rfl rfl _ (by rw [hy]; simp [DataW.weights, hs, hby]))
      omega
  · show bo.size ≤ reachBytes
    have h10 : y10.1 = .lit (.string bo.data.toList) := by rw [hy10]
    have := hw bo.data.toList.length (DataW.weights_mem_each (j := 10) rfl rfl _ (by rw [h10]; simp [DataW.weights]))
    simpa using this

end VdFr

namespace VdLc


theorem lc_list3 {α : Type} (l : List α) (h : l.length = 3) : ∃ c0 c1 c2, l = [c0, c1, c2] := by
  match l, h with
  | [c0, c1, c2], _ => exact ⟨c0, c1, c2, rfl⟩

theorem lc_list4 {α : Type} (l : List α) (h : l.length = 4) : ∃ c0 c1 c2 c3, l = [c0, c1, c2, c3] := by
  match l, h with
  | [c0, c1, c2, c3], _ => exact ⟨c0, c1, c2, c3, rfl⟩

theorem lc_list6 {α : Type} (l : List α) (h : l.length = 6) : ∃ c0 c1 c2 c3 c4 c5, l = [c0, c1, c2, c3, c4, c5] := by
  match l, h with
  | [c0, c1, c2, c3, c4, c5], _ => exact ⟨c0, c1, c2, c3, c4, c5, rfl⟩

theorem lc_list9 {α : Type} (l : List α) (h : l.length = 9) : ∃ c0 c1 c2 c3 c4 c5 c6 c7 c8, l = [c0, c1, c2, c3, c4, c5, c6, c7, c8] := by
  match l, h with
  | [c0, c1, c2, c3, c4, c5, c6, c7, c8], _ => exact ⟨c0, c1, c2, c3, c4, c5, c6, c7, c8, rfl⟩

theorem lc_list23 {α : Type} (l : List α) (h : l.length = 23) : ∃ c0 c1 c2 c3 c4 c5 c6 c7 c8 c9 c10 c11 c12 c13 c14 c15 c16 c17 c18 c19 c20 c21 c22, l = [c0, c1, c2, c3, c4, c5, c6, c7, c8, c9, c10, c11, c12, c13, c14, c15, c16, c17, c18, c19, c20, c21, c22] := by
  match l, h with
  | [c0, c1, c2, c3, c4, c5, c6, c7, c8, c9, c10, c11, c12, c13, c14, c15, c16, c17, c18, c19, c20, c21, c22], _ => exact ⟨c0, c1, c2, c3, c4, c5, c6, c7, c8, c9, c10, c11, c12, c13, c14, c15, c16, c17, c18, c19, c20, c21, c22, rfl⟩

theorem nat_u8f {z : Int} (h : (Lit.int .u8 z).wf = true) : ∃ n : Nat, z = n ∧ n < 256 := by
  have := bounds_u8 h
  exact ⟨z.toNat, by omega, by omega⟩

set_option maxRecDepth 100000 in
theorem six_trod {H : Type} {enc : TypeId × Value → H} {W : World} {base fuel : Nat} {sp : Nat → Bool} {held : Bool} {c0 c1 c2 c3 c4 c5 : Value} {y : DataW H × List MemPlace}
    (h : DataW.trod enc Try.prog W base sp held fuel 24 [c0, c1, c2, c3, c4, c5] = some y) :
    ∃ x : Nat → Nat, (∀ i, x i < 256) ∧ c0 = .int .u8 (x 0) ∧ c1 = .int .u8 (x 1) ∧ c2 = .int .u8 (x 2) ∧ c3 = .int .u8 (x 3) ∧ c4 = .int .u8 (x 4) ∧ c5 = .int .u8 (x 5) := by
  have hc1 : Try.prog.cellsOf 5 = 1 := by kernel_rfl
  obtain ⟨xs, m, _, _, _, hl, hx⟩ := DataW.trod_array Try.underlying24 h
  rw [hc1] at hx
  have each : ∀ (i : Nat) (c : Value), i < 6 → ((([c0, c1, c2, c3, c4, c5] : List Value).drop (i * 1)).take 1) = [c] → ∃ n : Nat, c = .int .u8 n ∧ n < 256 := by
    intro i c hi hc
    have h1 := hx i hi
    rw [hc] at h1
    obtain ⟨y, hy⟩ : ∃ y, xs[i]? = some y := ⟨xs[i]'(by omega), List.getElem?_eq_getElem _⟩
    rw [hy] at h1
    obtain ⟨z, e0, _, hw⟩ := DataW.trod_int Try.underlying5 h1
    simp only [List.cons.injEq, and_true] at e0
    obtain ⟨n, rfl, hn⟩ := nat_u8f hw
    exact ⟨n, e0, hn⟩
  obtain ⟨n0, rfl, h0⟩ := each 0 c0 (by omega) rfl
  obtain ⟨n1, rfl, h1⟩ := each 1 c1 (by omega) rfl
  obtain ⟨n2, rfl, h2⟩ := each 2 c2 (by omega) rfl
  obtain ⟨n3, rfl, h3⟩ := each 3 c3 (by omega) rfl
  obtain ⟨n4, rfl, h4⟩ := each 4 c4 (by omega) rfl
  obtain ⟨n5, rfl, h5⟩ := each 5 c5 (by omega) rfl
  refine ⟨fun i => if i = 0 then n0 else if i = 1 then n1 else if i = 2 then n2 else if i = 3 then n3 else if i = 4 then n4 else n5, fun i => ?_, rfl, rfl, rfl, rfl, rfl, rfl⟩
  dsimp only
  split
  · exact h0
  split
  · exact h1
  split
  · exact h2
  split
  · exact h3
  split
  · exact h4
  exact h5

set_option maxRecDepth 100000 in
theorem py_trod {H : Type} {enc : TypeId × Value → H} {W : World} {base fuel : Nat} {sp : Nat → Bool} {held : Bool} {c0 c1 c2 c3 c4 c5 c6 c7 c8 c9 c10 : Value} {y : DataW H × List MemPlace}
    (h : DataW.trod enc Try.prog W base sp held fuel 54 [c0, c1, c2, c3, c4, c5, c6, c7, c8, c9, c10] = some y) : ∃ b : Py, (byPy b ∧ rgPy b) ∧ [c0, c1, c2, c3, c4, c5, c6, c7, c8, c9, c10] = (pyC b).toList := by
  have _h1 : Try.prog.cellsOf 24 = 6 := by kernel_rfl
  have _h2 : Try.prog.cellsOf 3 = 1 := by kernel_rfl
  obtain ⟨xs, n, _, hx, _, hlen, hg⟩ := DataW.trod_struct Try.underlying54 h
  obtain ⟨y0, y1, y2, y3, y4, y5, rfl⟩ := lc_list6 xs hlen
  have g0 := hg 0 _ rfl
  have g1 := hg 1 _ rfl
  have g2 := hg 2 _ rfl
  have g3 := hg 3 _ rfl
  have g4 := hg 4 _ rfl
  have g5 := hg 5 _ rfl
  obtain ⟨x0, e0, _, wf0⟩ := DataW.trod_int Try.underlying3 g0
  obtain rfl : c0 = .int .i64 x0 := (List.cons.inj (show [c0] = [.int .i64 x0] from e0)).1
  obtain ⟨ad, had, rfl, rfl, rfl, rfl, rfl, rfl⟩ := six_trod g1
  obtain ⟨x2, e2, _, wf2⟩ := DataW.trod_int Try.underlying3 g2
  obtain rfl : c7 = .int .i64 x2 := (List.cons.inj (show [c7] = [.int .i64 x2] from e2)).1
  obtain ⟨x3, e3, _, wf3⟩ := DataW.trod_int Try.underlying3 g3
  obtain rfl : c8 = .int .i64 x3 := (List.cons.inj (show [c8] = [.int .i64 x3] from e3)).1
  obtain ⟨x4, e4, _, wf4⟩ := DataW.trod_int Try.underlying3 g4
  obtain rfl : c9 = .int .i64 x4 := (List.cons.inj (show [c9] = [.int .i64 x4] from e4)).1
  obtain ⟨x5, e5, _, wf5⟩ := DataW.trod_int Try.underlying3 g5
  obtain rfl : c10 = .int .i64 x5 := (List.cons.inj (show [c10] = [.int .i64 x5] from e5)).1
  exact ⟨⟨x0, ad, x2, x3, x4, x5⟩, ⟨had, bounds_i64 wf0, bounds_i64 wf2, bounds_i64 wf3, bounds_i64 wf4, bounds_i64 wf5⟩, rfl⟩

set_option maxRecDepth 100000 in
theorem trd_lc {H : Type} {enc : TypeId × Value → H} {W : World} {fuel : Nat} {cs : List Value} {d : DataW H} {p : List MemPlace} (hsz : cs.length = 23)
    (hf : DataW.trod enc Try.prog W 0 (fun _ => true) true fuel 56 cs = some (d, p)) : ∃ b : Lc, byLc b ∧ rgLc b ∧ cs = (lcC b).toList := by
  have hcn : Try.prog.cellsOf 56 = 23 := by kernel_rfl
  have _h1 : Try.prog.cellsOf 54 = 11 := by kernel_rfl
  have _h2 : Try.prog.cellsOf 3 = 1 := by kernel_rfl
  obtain ⟨c0, c1, c2, c3, c4, c5, c6, c7, c8, c9, c10, c11, c12, c13, c14, c15, c16, c17, c18, c19, c20, c21, c22, rfl⟩ := lc_list23 cs hsz
  have h : DataW.trod enc Try.prog W 0 (fun _ => true) true fuel 56 [c0, c1, c2, c3, c4, c5, c6, c7, c8, c9, c10, c11, c12, c13, c14, c15, c16, c17, c18, c19, c20, c21, c22] = some (d, p) := hf
  obtain ⟨xs, n, _, hx, _, hlen, hg⟩ := DataW.trod_struct Try.underlying56 h
  obtain ⟨y0, y1, y2, rfl⟩ := lc_list3 xs hlen
  have g0 := hg 0 _ rfl
  have g1 := hg 1 _ rfl
  have g2 := hg 2 _ rfl
  obtain ⟨a, ha, ea⟩ := py_trod g0
  simp only [pyC, List.cons.injEq, and_true] at ea
  obtain ⟨rfl, rfl, rfl, rfl, rfl, rfl, rfl, rfl, rfl, rfl, rfl⟩ := ea
  obtain ⟨q, hq, eq⟩ := py_trod g1
  simp only [pyC, List.cons.injEq, and_true] at eq
  obtain ⟨rfl, rfl, rfl, rfl, rfl, rfl, rfl, rfl, rfl, rfl, rfl⟩ := eq
  obtain ⟨x2, e2, _, wf2⟩ := DataW.trod_int Try.underlying3 g2
  obtain rfl : c22 = .int .i64 x2 := (List.cons.inj (show [c22] = [.int .i64 x2] from e2)).1
  exact ⟨⟨a, q, x2⟩, ⟨ha.1, hq.1⟩, ⟨ha.2, hq.2, bounds_i64 wf2⟩, rfl⟩

set_option maxRecDepth 100000 in
theorem trd_mk {H : Type} {enc : TypeId × Value → H} {W : World} {fuel : Nat} {cs : List Value} {d : DataW H} {p : List MemPlace} (hsz : cs.length = 9)
    (hf : DataW.trod enc Try.prog W 0 (fun _ => true) true fuel 58 cs = some (d, p)) : ∃ b : Mk, byMk b ∧ rgMk b ∧ cs = (mkC b).toList := by
  have hcn : Try.prog.cellsOf 58 = 9 := by kernel_rfl
  have _h1 : Try.prog.cellsOf 24 = 6 := by kernel_rfl
  have _h2 : Try.prog.cellsOf 3 = 1 := by kernel_rfl
  have _h3 : Try.prog.cellsOf 4 = 1 := by kernel_rfl
  obtain ⟨c0, c1, c2, c3, c4, c5, c6, c7, c8, rfl⟩ := lc_list9 cs hsz
  have h : DataW.trod enc Try.prog W 0 (fun _ => true) true fuel 58 [c0, c1, c2, c3, c4, c5, c6, c7, c8] = some (d, p) := hf
  obtain ⟨xs, n, _, hx, _, hlen, hg⟩ := DataW.trod_struct Try.underlying58 h
  obtain ⟨y0, y1, y2, y3, rfl⟩ := lc_list4 xs hlen
  have g0 := hg 0 _ rfl
  have g1 := hg 1 _ rfl
  have g2 := hg 2 _ rfl
  have g3 := hg 3 _ rfl
  obtain ⟨x0, e0, _⟩ := DataW.trod_bool Try.underlying4 g0
  obtain rfl : c0 = .bool x0 := (List.cons.inj (show [c0] = [.bool x0] from e0)).1
  obtain ⟨x1, e1, _, wf1⟩ := DataW.trod_int Try.underlying3 g1
  obtain rfl : c1 = .int .i64 x1 := (List.cons.inj (show [c1] = [.int .i64 x1] from e1)).1
  obtain ⟨ad, had, rfl, rfl, rfl, rfl, rfl, rfl⟩ := six_trod g2
  obtain ⟨x3, e3, _, wf3⟩ := DataW.trod_int Try.underlying3 g3
  obtain rfl : c8 = .int .i64 x3 := (List.cons.inj (show [c8] = [.int .i64 x3] from e3)).1
  exact ⟨⟨x0, x1, ad, x3⟩, had, ⟨bounds_i64 wf1, bounds_i64 wf3⟩, rfl⟩

end VdLc

namespace VdMv


theorem list1s {α : Type} (l : List α) (h : l.length = 1) : ∃ c0, l = [c0] := by
  match l, h with
  | [c0], _ => exact ⟨c0, rfl⟩

theorem list3s {α : Type} (l : List α) (h : l.length = 3) : ∃ c0 c1 c2, l = [c0, c1, c2] := by
  match l, h with
  | [c0, c1, c2], _ => exact ⟨c0, c1, c2, rfl⟩

theorem iv_trod {H : Type} {enc : TypeId × Value → H} {W : World} {base fuel : Nat} {sp : Nat → Bool} {held : Bool} {c0 : Value} {y : DataW H × List MemPlace}
    (h : DataW.trod enc Try.prog W base sp held fuel 3 [c0] = some y) : ∃ x : Int, True ∧ [c0] = (ivC x).toList := by
  obtain ⟨x0, e0, _, wf0⟩ := DataW.trod_int Try.underlying3 h
  exact ⟨x0, trivial, e0⟩

set_option maxRecDepth 100000 in
theorem ivs_cell {H : Type} {enc : TypeId × Value → H} {W : World} {fuel : Nat} {z0 : Value} {y : DataW H × List MemPlace}
    (hf : DataW.trod enc Try.prog W 0 (fun _ => true) true fuel 70 [z0] = some y) : ∃ (a : Option Addr) (c : Nat) (l : List Int), z0 = .slice a l.length c ∧ l.length ≤ c ∧ c ≤ maxLen ∧ IvIn W a l ∧ ∀ x ∈ l, True := by
  have hs : Try.prog.underlying 70 = some (.slice 3) := by kernel_rfl
  have hc3 : Try.prog.cellsOf 3 = 1 := by kernel_rfl
  rcases open_slice hs hf with ⟨hc, hx⟩ | ⟨b, n, c, m, k, D, Pl, hc, hb, hl, hm, hmm, hx, hall⟩
  · simp at hc
    subst hc
    exact ⟨none, 0, [], rfl, Nat.le_refl _, by decide, Or.inl rfl, by simp⟩
  · simp at hc
    subst hc
    have hlm : n ≤ m := by rw [hmm]; split <;> omega
    have each : ∀ i, i < n → ∃ t : Int, True ∧ ∀ (j : Nat) (x : Value), (ivC t)[j]? = some x → W.cell? (b.add (i * 1 + j)) = some x := by
      intro i hi
      obtain ⟨cs', h1, h2⟩ := hall i (by omega)
      rw [hc3] at h1
      obtain ⟨_, hlen, hcell⟩ := World.cells?_some h1
      obtain ⟨c0, rfl⟩ := list1s cs' hlen
      obtain ⟨t, ht, he⟩ := iv_trod h2
      refine ⟨t, ht, fun j x hj => ?_⟩
      have hj2 : j < 1 := (Array.getElem?_eq_some_iff.1 hj).1
      have g := hcell j (by omega)
      rw [add_add] at g
      rw [g]
      have e2 : ([c0] : List Value)[j]? = some x := by rw [he]; simpa using hj
      exact e2
    obtain ⟨z, hz⟩ := choose_lt each
    obtain ⟨bb, bo, bs⟩ := b
    rcases Nat.eq_zero_or_pos n with rfl | q0
    · exact ⟨some ⟨bb, bo, bs⟩, c, [], rfl, hl, hm, Or.inl rfl, by simp⟩
    have h0 := (hz 0 q0).2 0 _ rfl
    have hspot : bs = none := by simpa [Addr.add] using World.cell?_spot h0
    subst hspot
    refine ⟨some ⟨bb, bo, none⟩, c, (List.range n).map z, by simp, by simpa using hl, hm, Or.inr ⟨bb, bo, rfl, ?_, fun j hj k x hx => ?_⟩, ?_⟩
    · have := World.block_lt_of_cell? W _ h0
      simpa [Addr.add] using this
    · have hj' : j < n := by simpa using hj
      simp only [List.getElem_map, List.getElem_range] at hx
      have e0 := (hz j hj').2 k x hx
      rw [add_plain] at e0
      rw [Nat.add_assoc]
      exact e0
    · intro v hv
      obtain ⟨j, hj, rfl⟩ := List.mem_map.1 hv
      exact (hz j (List.mem_range.1 hj)).1


set_option maxRecDepth 100000 in
theorem mv_trod {H : Type} {enc : TypeId × Value → H} {W : World} {fuel : Nat} {c0 c1 c2 : Value} {y : DataW H × List MemPlace}
    (h : DataW.trod enc Try.prog W 0 (fun _ => true) true fuel 72 [c0, c1, c2] = some y) : ∃ x : MvH, (IvIn W x.a x.x.ev ∧ x.x.ev.length ≤ x.c ∧ x.c ≤ maxLen) ∧ [c0, c1, c2] = (mvC x).toList := by
  have _h1 : Try.prog.cellsOf 4 = 1 := by kernel_rfl
  have _h2 : Try.prog.cellsOf 3 = 1 := by kernel_rfl
  have _h3 : Try.prog.cellsOf 70 = 1 := by kernel_rfl
  obtain ⟨xs, n, _, hx, _, hlen, hg⟩ := DataW.trod_struct Try.underlying72 h
  obtain ⟨y0, y1, y2, rfl⟩ := list3s xs hlen
  have g0 := hg 0 _ rfl
  have g1 := hg 1 _ rfl
  have g2 := hg 2 _ rfl
  obtain ⟨x0, e0, _⟩ := DataW.trod_bool Try.underlying4 g0
  obtain rfl : c0 = .bool x0 := (List.cons.inj (show [c0] = [.bool x0] from e0)).1
  obtain ⟨x1, e1, _, wf1⟩ := DataW.trod_int Try.underlying3 g1
  obtain rfl : c1 = .int .i64 x1 := (List.cons.inj (show [c1] = [.int .i64 x1] from e1)).1
  obtain ⟨a, c, l, rfl, hl, hm, hin, _⟩ := ivs_cell (z0 := c2) g2
  exact ⟨⟨⟨x0, x1, l⟩, a, c⟩, ⟨hin, hl, hm⟩, rfl⟩

set_option maxRecDepth 100000 in
theorem mvs_cell {H : Type} {enc : TypeId × Value → H} {W : World} {fuel : Nat} {z0 : Value} {y : DataW H × List MemPlace}
    (hf : DataW.trod enc Try.prog W 0 (fun _ => true) true fuel 59 [z0] = some y) : ∃ (a : Option Addr) (c : Nat) (l : List MvH), z0 = .slice a l.length c ∧ l.length ≤ c ∧ c ≤ maxLen ∧ MhIn W a l ∧ ∀ x ∈ l, (IvIn W x.a x.x.ev ∧ x.x.ev.length ≤ x.c ∧ x.c ≤ maxLen) := by
  have hs : Try.prog.underlying 59 = some (.slice 72) := by kernel_rfl
  have hc3 : Try.prog.cellsOf 72 = 3 := by kernel_rfl
  rcases open_slice hs hf with ⟨hc, hx⟩ | ⟨b, n, c, m, k, D, Pl, hc, hb, hl, hm, hmm, hx, hall⟩
  · simp at hc
    subst hc
    exact ⟨none, 0, [], rfl, Nat.le_refl _, by decide, Or.inl rfl, by simp⟩
  · simp at hc
    subst hc
    have hlm : n ≤ m := by rw [hmm]; split <;> omega
    have each : ∀ i, i < n → ∃ t : MvH, (IvIn W t.a t.x.ev ∧ t.x.ev.length ≤ t.c ∧ t.c ≤ maxLen) ∧ ∀ (j : Nat) (x : Value), (mvC t)[j]? = some x → W.cell? (b.add (i * 3 + j)) = some x := by
      intro i hi
      obtain ⟨cs', h1, h2⟩ := hall i (by omega)
      rw [hc3] at h1
      obtain ⟨_, hlen, hcell⟩ := World.cells?_some h1
      obtain ⟨c0, c1, c2, rfl⟩ := list3s cs' hlen
      obtain ⟨t, ht, he⟩ := mv_trod h2
      refine ⟨t, ht, fun j x hj => ?_⟩
      have hj2 : j < 3 := (Array.getElem?_eq_some_iff.1 hj).1
      have g := hcell j (by omega)
      rw [add_add] at g
      rw [g]
      have e2 : ([c0, c1, c2] : List Value)[j]? = some x := by rw [he]; simpa using hj
      exact e2
    obtain ⟨z, hz⟩ := choose_lt each
    obtain ⟨bb, bo, bs⟩ := b
    rcases Nat.eq_zero_or_pos n with rfl | q0
    · exact ⟨some ⟨bb, bo, bs⟩, c, [], rfl, hl, hm, Or.inl rfl, by simp⟩
    have h0 := (hz 0 q0).2 0 _ rfl
    have hspot : bs = none := by simpa [Addr.add] using World.cell?_spot h0
    subst hspot
    refine ⟨some ⟨bb, bo, none⟩, c, (List.range n).map z, by simp, by simpa using hl, hm, Or.inr ⟨bb, bo, rfl, ?_, fun j hj k x hx => ?_⟩, ?_⟩
    · have := World.block_lt_of_cell? W _ h0
      simpa [Addr.add] using this
    · have hj' : j < n := by simpa using hj
      simp only [List.getElem_map, List.getElem_range] at hx
      have e0 := (hz j hj').2 k x hx
      rw [add_plain] at e0
      rw [Nat.add_assoc]
      exact e0
    · intro v hv
      obtain ⟨j, hj, rfl⟩ := List.mem_map.1 hv
      exact (hz j (List.mem_range.1 hj)).1



end VdMv

set_option maxRecDepth 100000 in
theorem trd_ms {H : Type} {enc : TypeId × Value → H} {W : World} {fuel : Nat} {cs : List Value} {d : DataW H} {p : List MemPlace} (hsz : cs.length = 45)
    (hf : DataW.trod enc Try.prog W 0 (fun _ => true) true fuel 44 cs = some (d, p)) : ∃ (m : Ms) (a : Option Addr) (c : Nat) (l : List Ins), (ArgMs m l ∧ InIn W a l ∧ l.length ≤ c ∧ c ≤ maxLen ∧ ((∀ n ∈ d.weights Try.prog 44, n ≤ reachBytes) → m.name.size ≤ 140737488355328 ∧ m.dig.size ≤ 140737488355328)) ∧ cs = (msC m (.slice a l.length c)).toList := by
  have hcn : Try.prog.cellsOf 44 = 45 := by kernel_rfl
  have _h0 : Try.prog.cellsOf 41 = 31 := by kernel_rfl
  have _h1 : Try.prog.cellsOf 37 = 8 := by kernel_rfl
  have _h2 : Try.prog.cellsOf 3 = 1 := by kernel_rfl
  have _h3 : Try.prog.cellsOf 9 = 1 := by kernel_rfl
  have _h4 : Try.prog.cellsOf 42 = 1 := by kernel_rfl
  obtain ⟨c0, c1, c2, c3, c4, c5, c6, c7, c8, c9, c10, c11, c12, c13, c14, c15, c16, c17, c18, c19, c20, c21, c22, c23, c24, c25, c26, c27, c28, c29, c30, c31, c32, c33, c34, c35, c36, c37, c38, c39, c40, c41, c42, c43, c44, rfl⟩ := list45 cs hsz
  have h : DataW.trod enc Try.prog W 0 (fun _ => true) true fuel 44 [c0, c1, c2, c3, c4, c5, c6, c7, c8, c9, c10, c11, c12, c13, c14, c15, c16, c17, c18, c19, c20, c21, c22, c23, c24, c25, c26, c27, c28, c29, c30, c31, c32, c33, c34, c35, c36, c37, c38, c39, c40, c41, c42, c43, c44] = some (d, p) := hf
  obtain ⟨xs, n, _, hx, _, hlen, hg⟩ := DataW.trod_struct Try.underlying44 h
  obtain ⟨y0, y1, y2, y3, y4, y5, y6, y7, rfl⟩ := list8 xs hlen
  have g0 := hg 0 _ rfl
  have g1 := hg 1 _ rfl
  have g2 := hg 2 _ rfl
  have g3 := hg 3 _ rfl
  have g4 := hg 4 _ rfl
  have g5 := hg 5 _ rfl
  have g6 := hg 6 _ rfl
  have g7 := hg 7 _ rfl
  obtain ⟨bb, hby, hrg, hbb⟩ := bp_trod g0
  simp only [bpC, List.cons.injEq, and_true] at hbb
  obtain ⟨rfl, rfl, rfl, rfl, rfl, rfl, rfl, rfl, rfl, rfl, rfl, rfl, rfl, rfl, rfl, rfl, rfl, rfl, rfl, rfl, rfl, rfl, rfl, rfl, rfl, rfl, rfl, rfl, rfl, rfl, rfl⟩ := hbb
  obtain ⟨x1, e1, q1, sb1⟩ := DataW.trod_string Try.underlying9 g1
  obtain rfl : c31 = .string x1 := (List.cons.inj (show [c31] = [.string x1] from e1)).1
  obtain ⟨x2, e2, _, wf2⟩ := DataW.trod_int Try.underlying3 g2
  obtain rfl : c32 = .int .i64 x2 := (List.cons.inj (show [c32] = [.int .i64 x2] from e2)).1
  obtain ⟨x3, e3, q3, sb3⟩ := DataW.trod_string Try.underlying9 g3
  obtain rfl : c33 = .string x3 := (List.cons.inj (show [c33] = [.string x3] from e3)).1
  obtain ⟨x4, e4, _, wf4⟩ := DataW.trod_int Try.underlying3 g4
  obtain rfl : c34 = .int .i64 x4 := (List.cons.inj (show [c34] = [.int .i64 x4] from e4)).1
  obtain ⟨r, hr, rfl, rfl, rfl, rfl, rfl, rfl, rfl, rfl⟩ := br_trod g5
  obtain ⟨x6, e6, _, wf6⟩ := DataW.trod_int Try.underlying3 g6
  obtain rfl : c43 = .int .i64 x6 := (List.cons.inj (show [c43] = [.int .i64 x6] from e6)).1
  obtain ⟨a, c, li, rfl, hlc, hcm, hin, hall⟩ := ins_cell g7
  refine ⟨⟨bb, x1, x2, x3, x4, r, x6⟩, a, c, li, ⟨⟨⟨hby, hr, fun x hx => (hall x hx).1⟩, hrg, ⟨bounds_i64 wf2, bounds_i64 wf4, bounds_i64 wf6⟩, fun x hx => (hall x hx).2⟩, hin, hlc, hcm, fun hw => ?_⟩, rfl⟩
  simp only [Prod.mk.injEq] at hx
  have hd : d = .agg [y0.1, y1.1, y2.1, y3.1, y4.1, y5.1, y6.1, y7.1] := hx.1
  rw [hd] at hw
  have hW : DataW.weights Try.prog 44 (.agg [y0.1, y1.1, y2.1, y3.1, y4.1, y5.1, y6.1, y7.1]) = DataW.weightsEach Try.prog [41, 9, 3, 9, 3, 37, 3, 42] [y0.1, y1.1, y2.1, y3.1, y4.1, y5.1, y6.1, y7.1] := by
    rw [DataW.weights, Try.underlying44]
    rfl
  rw [hW] at hw
  have h1 : y1.1 = .lit (.string x1.data.toList) := by rw [q1]
  have h3 : y3.1 = .lit (.string x3.data.toList) := by rw [q3]
  have w1 := hw x1.data.toList.length (DataW.weights_mem_each (j := 1) rfl rfl _ (by rw [h1]; simp [DataW.weights]))
  have w3 := hw x3.data.toList.length (DataW.weights_mem_each (j := 3) rfl rfl _ (by rw [h3]; simp [DataW.weights]))
  have l1 : x1.data.toList.length = x1.size := by simp
  have l3 : x3.data.toList.length = x3.size := by simp
  have := reachBytes_lt
  exact ⟨by show x1.size ≤ _; omega, by show x3.size ≤ _; omega⟩

set_option maxRecDepth 100000 in
theorem trd_ld {H : Type} {enc : TypeId × Value → H} {W : World} {fuel : Nat} {cs : List Value} {d : DataW H} {p : List MemPlace} (hsz : cs.length = 11)
    (hf : DataW.trod enc Try.prog W 0 (fun _ => true) true fuel 52 cs = some (d, p)) : ∃ (x : Ld) (q : LdA), (rgLd x ∧ LdIn W x q ∧ (∀ y ∈ x.de, y.size ≤ maxLen) ∧ (∀ y ∈ x.ho, y.size ≤ maxLen) ∧ (∀ y ∈ x.sy, y.size ≤ maxLen)) ∧ cs = (ldC x q).toList := by
  have hcn : Try.prog.cellsOf 52 = 11 := by kernel_rfl
  have _h1 : Try.prog.cellsOf 46 = 2 := by kernel_rfl
  have _h2 : Try.prog.cellsOf 3 = 1 := by kernel_rfl
  have _h3 : Try.prog.cellsOf 47 = 1 := by kernel_rfl
  have _h4 : Try.prog.cellsOf 48 = 1 := by kernel_rfl
  have _h5 : Try.prog.cellsOf 49 = 1 := by kernel_rfl
  have _h6 : Try.prog.cellsOf 50 = 1 := by kernel_rfl
  obtain ⟨c0, c1, c2, c3, c4, c5, c6, c7, c8, c9, c10, rfl⟩ := list11s cs hsz
  have h : DataW.trod enc Try.prog W 0 (fun _ => true) true fuel 52 [c0, c1, c2, c3, c4, c5, c6, c7, c8, c9, c10] = some (d, p) := hf
  obtain ⟨xs, n, _, hx, _, hlen, hg⟩ := DataW.trod_struct Try.underlying52 h
  obtain ⟨y0, y1, y2, y3, y4, y5, y6, y7, y8, rfl⟩ := list9s xs hlen
  have g0 := hg 0 _ rfl
  have g1 := hg 1 _ rfl
  have g2 := hg 2 _ rfl
  have g3 := hg 3 _ rfl
  have g4 := hg 4 _ rfl
  have g5 := hg 5 _ rfl
  have g6 := hg 6 _ rfl
  have g7 := hg 7 _ rfl
  have g8 := hg 8 _ rfl
  obtain ⟨z0, rz0, ez0⟩ := nm_trod g0
  simp only [nmC, List.cons.injEq, and_true] at ez0
  obtain ⟨rfl, rfl⟩ := ez0
  obtain ⟨z1, rz1, ez1⟩ := nm_trod g1
  simp only [nmC, List.cons.injEq, and_true] at ez1
  obtain ⟨rfl, rfl⟩ := ez1
  obtain ⟨x2, e2, _, wf2⟩ := DataW.trod_int Try.underlying3 g2
  obtain rfl : c4 = .int .i64 x2 := (List.cons.inj (show [c4] = [.int .i64 x2] from e2)).1
  obtain ⟨a3, k3, l3, rfl, hlc3, hcm3, hin3, hall3⟩ := sts_cell g3
  obtain ⟨a4, k4, l4, rfl, hlc4, hcm4, hin4, hall4⟩ := sts_cell g4
  obtain ⟨a5, k5, l5, rfl, hlc5, hcm5, hin5, hall5⟩ := sts_cell g5
  obtain ⟨a6, k6, l6, rfl, hlc6, hcm6, hin6, hall6⟩ := cps_cell g6
  obtain ⟨a7, k7, l7, rfl, hlc7, hcm7, hin7, hall7⟩ := mgs_cell g7
  obtain ⟨a8, k8, l8, rfl, hlc8, hcm8, hin8, hall8⟩ := ogs_cell g8
  exact ⟨⟨z0, z1, x2, l3, l4, l5, l6, l7, l8⟩, ⟨(a3, k3), (a4, k4), (a5, k5), (a6, k6), (a7, k7), (a8, k8)⟩, ⟨⟨rz0, rz1, bounds_i64 wf2, hall6, hall7, hall8, Nat.le_trans hlc3 hcm3, Nat.le_trans hlc4 hcm4, Nat.le_trans hlc5 hcm5, Nat.le_trans hlc6 hcm6, Nat.le_trans hlc7 hcm7, Nat.le_trans hlc8 hcm8⟩, ⟨hin3, hin4, hin5, hin6, hin7, hin8⟩, hall3, hall4, hall5⟩, rfl⟩

theorem one_list {α : Type} (l : List α) (h : l.length = 1) : ∃ c, l = [c] := by
  match l, h with
  | [c], _ => exact ⟨c, rfl⟩

theorem vd_fields {α : Type} (l : List α) (h : l.length = 12) : ∃ y0 y1 y2 y3 y4 y5 y6 y7 y8 y9 y10 y11, l = [y0, y1, y2, y3, y4, y5, y6, y7, y8, y9, y10, y11] := by
  match l, h with
  | [y0, y1, y2, y3, y4, y5, y6, y7, y8, y9, y10, y11], _ => exact ⟨y0, y1, y2, y3, y4, y5, y6, y7, y8, y9, y10, y11, rfl⟩

theorem pieces (l : List Value) (h : l.length = 175) : l = (l.drop 0).take 1 ++ ((l.drop 1).take 1 ++ ((l.drop 2).take 1 ++ ((l.drop 3).take 21 ++ ((l.drop 24).take 21 ++ ((l.drop 45).take 10 ++ ((l.drop 55).take 31 ++ ((l.drop 86).take 45 ++ ((l.drop 131).take 11 ++ ((l.drop 142).take 23 ++ ((l.drop 165).take 9 ++ (l.drop 174).take 1)))))))))) := by
  have step : ∀ (a n : Nat) (r : List Value), r = l.drop (a + n) → (l.drop a).take n ++ r = l.drop a := fun a n r hr => by
    rw [hr, ← List.drop_drop, List.take_append_drop]
  have last : (l.drop 174).take 1 = l.drop (165 + 9) := by
    apply List.take_of_length_le
    simp [h]
  exact (step 0 1 _ (step 1 1 _ (step 2 1 _ (step 3 21 _ (step 24 21 _ (step 45 10 _ (step 55 31 _ (step 86 45 _ (step 131 11 _ (step 142 23 _ (step 165 9 _ last))))))))))).symm

set_option maxRecDepth 100000 in
theorem open_vd {H : Type} {enc : TypeId × Value → H} {W : World} {base : Nat} {v : Value} {d : DataW H} {p : List MemPlace} (hval : Value.okWide Try.prog W .any base 61 v)
    (h : DataW.Trod enc Try.prog W 0 (fun _ => true) true 61 v d p) : ∃ x : Vd, (VdIn W x ∧ FrArg W x.fr) ∧ v = .agg (vdC x) := by
  have hcn : Try.prog.cellsOf 61 = 175 := by kernel_rfl
  have _h0 : Try.prog.cellsOf 3 = 1 := by kernel_rfl
  have _h1 : Try.prog.cellsOf 22 = 1 := by kernel_rfl
  have _h3 : Try.prog.cellsOf 27 = 21 := by kernel_rfl
  have _h4 : Try.prog.cellsOf 30 = 21 := by kernel_rfl
  have _h5 : Try.prog.cellsOf 33 = 10 := by kernel_rfl
  have _h6 : Try.prog.cellsOf 41 = 31 := by kernel_rfl
  have _h7 : Try.prog.cellsOf 44 = 45 := by kernel_rfl
  have _h8 : Try.prog.cellsOf 52 = 11 := by kernel_rfl
  have _h9 : Try.prog.cellsOf 56 = 23 := by kernel_rfl
  have _h10 : Try.prog.cellsOf 58 = 9 := by kernel_rfl
  have _h11 : Try.prog.cellsOf 59 = 1 := by kernel_rfl
  obtain ⟨cs, rfl, hsz⟩ := okWide_struct Try.underlying61 hval
  rw [hcn] at hsz
  obtain ⟨l⟩ := cs
  have hl : l.length = 175 := hsz
  obtain ⟨fuel, hf⟩ := h
  have h : DataW.trod enc Try.prog W 0 (fun _ => true) true fuel 61 l = some (d, p) := by simpa [Value.cells] using hf
  obtain ⟨xs, n, _, hx, _, hlen, hg⟩ := DataW.trod_struct Try.underlying61 h
  obtain ⟨y0, y1, y2, y3, y4, y5, y6, y7, y8, y9, y10, y11, rfl⟩ := vd_fields xs hlen
  have g0 : DataW.trod enc Try.prog W 0 (fun _ => true) true n 3 ((l.drop 0).take 1) = some (y0.1, y0.2) := hg 0 _ rfl
  have n0 : ((l.drop 0).take 1).length = 1 := by simp [hl]
  have g1 : DataW.trod enc Try.prog W 0 (fun _ => true) true n 22 ((l.drop 1).take 1) = some (y1.1, y1.2) := hg 1 _ rfl
  have n1 : ((l.drop 1).take 1).length = 1 := by simp [hl]
  have g2 : DataW.trod enc Try.prog W 0 (fun _ => true) true n 3 ((l.drop 2).take 1) = some (y2.1, y2.2) := hg 2 _ rfl
  have n2 : ((l.drop 2).take 1).length = 1 := by simp [hl]
  have g3 : DataW.trod enc Try.prog W 0 (fun _ => true) true n 27 ((l.drop 3).take 21) = some (y3.1, y3.2) := hg 3 _ rfl
  have n3 : ((l.drop 3).take 21).length = 21 := by simp [hl]
  have g4 : DataW.trod enc Try.prog W 0 (fun _ => true) true n 30 ((l.drop 24).take 21) = some (y4.1, y4.2) := hg 4 _ rfl
  have n4 : ((l.drop 24).take 21).length = 21 := by simp [hl]
  have g5 : DataW.trod enc Try.prog W 0 (fun _ => true) true n 33 ((l.drop 45).take 10) = some (y5.1, y5.2) := hg 5 _ rfl
  have n5 : ((l.drop 45).take 10).length = 10 := by simp [hl]
  have g6 : DataW.trod enc Try.prog W 0 (fun _ => true) true n 41 ((l.drop 55).take 31) = some (y6.1, y6.2) := hg 6 _ rfl
  have n6 : ((l.drop 55).take 31).length = 31 := by simp [hl]
  have g7 : DataW.trod enc Try.prog W 0 (fun _ => true) true n 44 ((l.drop 86).take 45) = some (y7.1, y7.2) := hg 7 _ rfl
  have n7 : ((l.drop 86).take 45).length = 45 := by simp [hl]
  have g8 : DataW.trod enc Try.prog W 0 (fun _ => true) true n 52 ((l.drop 131).take 11) = some (y8.1, y8.2) := hg 8 _ rfl
  have n8 : ((l.drop 131).take 11).length = 11 := by simp [hl]
  have g9 : DataW.trod enc Try.prog W 0 (fun _ => true) true n 56 ((l.drop 142).take 23) = some (y9.1, y9.2) := hg 9 _ rfl
  have n9 : ((l.drop 142).take 23).length = 23 := by simp [hl]
  have g10 : DataW.trod enc Try.prog W 0 (fun _ => true) true n 58 ((l.drop 165).take 9) = some (y10.1, y10.2) := hg 10 _ rfl
  have n10 : ((l.drop 165).take 9).length = 9 := by simp [hl]
  have g11 : DataW.trod enc Try.prog W 0 (fun _ => true) true n 59 ((l.drop 174).take 1) = some (y11.1, y11.2) := hg 11 _ rfl
  have n11 : ((l.drop 174).take 1).length = 1 := by simp [hl]
  have hp := pieces l hl
  generalize (l.drop 0).take 1 = l0 at *
  generalize (l.drop 1).take 1 = l1 at *
  generalize (l.drop 2).take 1 = l2 at *
  generalize (l.drop 3).take 21 = l3 at *
  generalize (l.drop 24).take 21 = l4 at *
  generalize (l.drop 45).take 10 = l5 at *
  generalize (l.drop 55).take 31 = l6 at *
  generalize (l.drop 86).take 45 = l7 at *
  generalize (l.drop 131).take 11 = l8 at *
  generalize (l.drop 142).take 23 = l9 at *
  generalize (l.drop 165).take 9 = l10 at *
  generalize (l.drop 174).take 1 = l11 at *
  obtain ⟨c0, rfl⟩ := one_list l0 n0
  obtain ⟨x0, e0, _, wf0⟩ := DataW.trod_int Try.underlying3 g0
  obtain rfl : c0 = .int .i64 x0 := (List.cons.inj (show [c0] = [.int .i64 x0] from e0)).1
  obtain ⟨c1, rfl⟩ := one_list l1 n1
  obtain ⟨x1, e1, _, wf1⟩ := DataW.trod_int Try.underlying22 g1
  obtain rfl : c1 = .int .i64 x1 := (List.cons.inj (show [c1] = [.int .i64 x1] from e1)).1
  obtain ⟨c2, rfl⟩ := one_list l2 n2
  obtain ⟨x2, e2, _, wf2⟩ := DataW.trod_int Try.underlying3 g2
  obtain rfl : c2 = .int .i64 x2 := (List.cons.inj (show [c2] = [.int .i64 x2] from e2)).1
  obtain ⟨fr, hfr, ha, _⟩ := VdFr.trd_frame n3 g3
  obtain ⟨ar, _, har⟩ := VdAr.trd_ar n4 g4
  obtain ⟨pa, hpa⟩ := VdPa.trd_pa n5 g5
  obtain ⟨b0, b1, b2, b3, b4, b5, b6, b7, b8, b9, b10, b11, b12, b13, b14, b15, b16, b17, b18, b19, b20, b21, b22, b23, b24, b25, b26, b27, b28, b29, b30, rfl⟩ := list31 l6 n6
  obtain ⟨bp, _, _, hbp⟩ := bp_trod g6
  obtain ⟨ms, ia, ic, il, ⟨_, hin, hic, him, _⟩, hms⟩ := trd_ms n7 g7
  obtain ⟨ld, lq, ⟨hrl, hld, _⟩, hldc⟩ := trd_ld n8 g8
  obtain ⟨lc, _, _, hlc⟩ := VdLc.trd_lc n9 g9
  obtain ⟨mr, _, _, hmr⟩ := VdLc.trd_mk n10 g10
  obtain ⟨c11, rfl⟩ := one_list l11 n11
  obtain ⟨va, vc, vl, rfl, hvc, hvm, hv1, hv2⟩ := VdMv.mvs_cell g11
  rw [hfr, har, hpa, hbp, hms, hldc, hlc, hmr] at hp
  refine ⟨⟨x0, x1, x2, fr, ar, pa, bp, ms, ia, ic, il, ld, lq, lc, mr, va, vc, vl⟩, ⟨⟨hin, hld, ⟨hv1, hv2⟩, ?_⟩, ha⟩, ?_⟩
  · obtain ⟨_, _, _, _, _, _, q1, q2, q3, q4, q5, q6⟩ := hrl
    exact ⟨Nat.le_trans hic him, Nat.le_trans hvc hvm, q1, q2, q3, q4, q5, q6⟩
  · rw [hp]
    rfl

end Go.Proofs.Ytnlphldkdglofaa

namespace Go.Proofs.Ytnlphldkdglofaa.verdictSames
open Go.ChangeShapes Go.WideShapes Go.ChangeAt Go.RowKit
set_option linter.unusedVariables false

theorem laidOut_ : laidOutB Try.prog = true := by kernel_rfl

theorem own : ownKnob Try.prog.godebug = none := by kernel_rfl

set_option maxRecDepth 100000 in
theorem lifted (os : Os) (started : os.Started) (H : Type) (enc : TypeId × Value → H) :
    ReturnsInHanded {} Try.checked os 3 .any (Rows.verdictSamesSpec.pre6 enc Try.prog Try.f3 Rows.verdictSamesRow.domain false) (Rows.verdictSamesSpec.post enc Try.prog Try.f3 false true false false) := by
  refine returnsInHanded_of_change (C := Try.checked) own started (by kernel_rfl) Try.func3
    (ChangeSpec.witness6 (enc := enc) (C := Try.checked) false ⟨#[], #[.agg #[.int .i64 0, .int .i64 0, .int .i64 0, .int .u8 0, .int .u8 0, .int .u8 0, .int .u8 0, .int .u8 0, .int .u8 0, .int .u8 0, .int .u8 0, .int .u8 0, .int .u8 0, .int .u8 0, .int .u8 0, .slice none 0 0, .int .i64 0, .int .i64 0, .int .i64 0, .int .i64 0, .int .i64 0, .int .i64 0, .int .i64 0, .string ⟨#[]⟩, .int .i64 0, .int .u8 0, .int .u8 0, .int .u8 0, .int .u8 0, .int .u8 0, .int .u8 0, .int .u8 0, .int .u8 0, .int .u8 0, .int .u8 0, .int .u8 0, .int .u8 0, .int .u8 0, .int .u8 0, .int .u8 0, .int .u8 0, .int .u8 0, .int .u8 0, .int .u8 0, .int .u8 0, .bool false, .int .i64 0, .int .i64 0, .int .i64 0, .int .i64 0, .int .i64 0, .int .i64 0, .int .i64 0, .int .i64 0, .int .i64 0, .int .i64 0, .bool false, .bool false, .int .i64 0, .bool false, .bool false, .bool false, .bool false, .int .i64 0, .int .i64 0, .int .u8 0, .int .u8 0, .int .u8 0, .int .u8 0, .int .u8 0, .int .u8 0, .int .i64 0, .int .i64 0, .int .i64 0, .int .u8 0, .int .u8 0, .int .u8 0, .int .u8 0, .int .u8 0, .int .u8 0, .int .i64 0, .int .i64 0, .int .i64 0, .int .i64 0, .int .i64 0, .int .i64 0, .int .i64 0, .bool false, .bool false, .int .i64 0, .bool false, .bool false, .bool false, .bool false, .int .i64 0, .int .i64 0, .int .u8 0, .int .u8 0, .int .u8 0, .int .u8 0, .int .u8 0, .int .u8 0, .int .i64 0, .int .i64 0, .int .i64 0, .int .u8 0, .int .u8 0, .int .u8 0, .int .u8 0, .int .u8 0, .int .u8 0, .int .i64 0, .int .i64 0, .int .i64 0, .int .i64 0, .int .i64 0, .int .i64 0, .string ⟨#[]⟩, .int .i64 0, .string ⟨#[]⟩, .int .i64 0, .int .i64 0, .int .i64 0, .int .u8 0, .int .u8 0, .int .u8 0, .int .u8 0, .int .u8 0, .int .u8 0, .int .i64 0, .slice none 0 0, .int .i64 0, .string ⟨#[]⟩, .int .i64 0, .string ⟨#[]⟩, .int .i64 0, .slice none 0 0, .slice none 0 0, .slice none 0 0, .slice none 0 0, .slice none 0 0, .slice none 0 0, .int .i64 0, .int .u8 0, .int .u8 0, .int .u8 0, .int .u8 0, .int .u8 0, .int .u8 0, .int .i64 0, .int .i64 0, .int .i64 0, .int .i64 0, .int .i64 0, .int .u8 0, .int .u8 0, .int .u8 0, .int .u8 0, .int .u8 0, .int .u8 0, .int .i64 0, .int .i64 0, .int .i64 0, .int .i64 0, .int .i64 0, .bool false, .int .i64 0, .int .u8 0, .int .u8 0, .int .u8 0, .int .u8 0, .int .u8 0, .int .u8 0, .int .i64 0, .slice none 0 0], .agg #[.int .i64 0, .int .i64 0, .int .i64 0, .int .u8 0, .int .u8 0, .int .u8 0, .int .u8 0, .int .u8 0, .int .u8 0, .int .u8 0, .int .u8 0, .int .u8 0, .int .u8 0, .int .u8 0, .int .u8 0, .slice none 0 0, .int .i64 0, .int .i64 0, .int .i64 0, .int .i64 0, .int .i64 0, .int .i64 0, .int .i64 0, .string ⟨#[]⟩, .int .i64 0, .int .u8 0, .int .u8 0, .int .u8 0, .int .u8 0, .int .u8 0, .int .u8 0, .int .u8 0, .int .u8 0, .int .u8 0, .int .u8 0, .int .u8 0, .int .u8 0, .int .u8 0, .int .u8 0, .int .u8 0, .int .u8 0, .int .u8 0, .int .u8 0, .int .u8 0, .int .u8 0, .bool false, .int .i64 0, .int .i64 0, .int .i64 0, .int .i64 0, .int .i64 0, .int .i64 0, .int .i64 0, .int .i64 0, .int .i64 0, .int .i64 0, .bool false, .bool false, .int .i64 0, .bool false, .bool false, .bool false, .bool false, .int .i64 0, .int .i64 0, .int .u8 0, .int .u8 0, .int .u8 0, .int .u8 0, .int .u8 0, .int .u8 0, .int .i64 0, .int .i64 0, .int .i64 0, .int .u8 0, .int .u8 0, .int .u8 0, .int .u8 0, .int .u8 0, .int .u8 0, .int .i64 0, .int .i64 0, .int .i64 0, .int .i64 0, .int .i64 0, .int .i64 0, .int .i64 0, .bool false, .bool false, .int .i64 0, .bool false, .bool false, .bool false, .bool false, .int .i64 0, .int .i64 0, .int .u8 0, .int .u8 0, .int .u8 0, .int .u8 0, .int .u8 0, .int .u8 0, .int .i64 0, .int .i64 0, .int .i64 0, .int .u8 0, .int .u8 0, .int .u8 0, .int .u8 0, .int .u8 0, .int .u8 0, .int .i64 0, .int .i64 0, .int .i64 0, .int .i64 0, .int .i64 0, .int .i64 0, .string ⟨#[]⟩, .int .i64 0, .string ⟨#[]⟩, .int .i64 0, .int .i64 0, .int .i64 0, .int .u8 0, .int .u8 0, .int .u8 0, .int .u8 0, .int .u8 0, .int .u8 0, .int .i64 0, .slice none 0 0, .int .i64 0, .string ⟨#[]⟩, .int .i64 0, .string ⟨#[]⟩, .int .i64 0, .slice none 0 0, .slice none 0 0, .slice none 0 0, .slice none 0 0, .slice none 0 0, .slice none 0 0, .int .i64 0, .int .u8 0, .int .u8 0, .int .u8 0, .int .u8 0, .int .u8 0, .int .u8 0, .int .i64 0, .int .i64 0, .int .i64 0, .int .i64 0, .int .i64 0, .int .u8 0, .int .u8 0, .int .u8 0, .int .u8 0, .int .u8 0, .int .u8 0, .int .i64 0, .int .i64 0, .int .i64 0, .int .i64 0, .int .i64 0, .bool false, .int .i64 0, .int .u8 0, .int .u8 0, .int .u8 0, .int .u8 0, .int .u8 0, .int .u8 0, .int .i64 0, .slice none 0 0]], []⟩ 8 (by kernel_rfl) (by kernel_rfl) (by kernel_rfl) (by kernel_rfl)) ?_
  intro W base args ds gs before hval0 hW hcnd _
  have hval : ∀ (j : Nat) t v, Try.f3.params[j]? = some t → args[j]? = some v → Value.okWide Try.prog W .any base t v := hval0
  have hW' := hW
  obtain ⟨p, q, hA0, hV, rfl, hfz, hnd⟩ := hW
  have hA : DataW.TrodAll enc Try.prog W 0 (fun _ => true) true Try.f3.params.toList args.toList ds p := hA0
  rw [Try.params3] at hA hval
  obtain ⟨v0, vs0, d0, ds0, p0, q0, hargs, rfl, rfl, h0, r0⟩ := trodAll_cons hA
  obtain ⟨v1, vs1, d1, ds1, p1, q1, rfl, rfl, rfl, h1, r1⟩ := trodAll_cons r0
  obtain ⟨rfl, rfl, rfl⟩ := trodAll_nil r1
  obtain rfl : args = #[v0, v1] := by cases args; simp_all
  obtain ⟨rfl, rfl⟩ := trodVars_none hV
  clear hA0 hval0
  simp only [List.append_nil] at hW'
  have hlt := hW'.lt
  obtain ⟨x0, ⟨hx0, ha0⟩, hv0⟩ := open_vd (hval 0 61 v0 rfl rfl) h0
  obtain ⟨x1, ⟨hx1, ha1⟩, hv1⟩ := open_vd (hval 1 61 v1 rfl rfl) h1
  subst hv0
  subst hv1
  refine (walk x0 x1 W hx0 hx1 ha0 ha1).mono fun e W' ⟨he, hb⟩ => ?_
  subst he
  exact ⟨_, rfl, met_below hW' (fun _ _ _ => (trodAll_cons_mk (shut_bool Try.underlying4 _) trodAll_mk0)) (fun sp hsp => by have r := (trodAll_cons_mk (WideElems.Trod_stays laidOut_ (by kernel_rfl) (of_decide_eq_true (by kernel_rfl)) h0 (fun x hx => hb.same (hlt x (by simp [hx]))) (fun x hx => hsp x (by simp [hx]))) (trodAll_cons_mk (WideElems.Trod_stays laidOut_ (by kernel_rfl) (of_decide_eq_true (by kernel_rfl)) h1 (fun x hx => hb.same (hlt x (by simp [hx]))) (fun x hx => hsp x (by simp [hx]))) trodAll_mk0)); simp only [List.append_nil] at r; exact r) (fun _ => rfl) hb
    (ok_one (by kernel_rfl) rfl (okWide_bool_mk Try.underlying4 _))⟩

theorem over : Rows.verdictSamesRow.holds Try.pinned (OpenSpec.ofChange Rows.verdictSamesSpec) :=
  OpenClaim.holds_of_wide 3 Try.f3 rfl rfl rfl rfl rfl rfl rfl ⟨rfl, rfl, rfl, rfl, rfl⟩ rfl rfl rfl rfl rfl (by kernel_rfl) Try.func3 (by kernel_rfl)
    (of_decide_eq_true (by kernel_rfl)) (by unfold Func.isWrapper; first | (rw [if_pos (by decide +kernel)]; kernel_rfl) | (rw [if_neg (by decide +kernel)]; exact ⟨rfl, rfl⟩))
    (fun os started H enc _ => lifted os started H enc)

theorem proved : Rows.VerdictSamesSaid := over
#print axioms proved

end Go.Proofs.Ytnlphldkdglofaa.verdictSames

