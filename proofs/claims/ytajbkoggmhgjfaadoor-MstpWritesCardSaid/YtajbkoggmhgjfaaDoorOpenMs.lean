/- Arguments opened: messages of many trees. Arguments opened: flags, BPDUs. Arguments opened: names, vectors, lists of vectors. -/
import Derived.Test.YtajbkoggmhgjfaaDoorVecs
import Derived.ProofKit
import Derived.OpenShut
import Derived.WideKeyArgs
import Derived.WideShapes
import Derived.Lib.SmallJoins
import Derived.Deep.SlicePairs
import Derived.Test.YtajbkoggmhgjfaaDoorBp
import Derived.Test.YtajbkoggmhgjfaaDoorBpFits
import Derived.Test.YtajbkoggmhgjfaaDoorMs
import Derived.SizedLaws
namespace Go.Proofs.YtajbkoggmhgjfaaDoor
open Go.ChangeShapes Go.WideShapes Go.ChangeAt Go.RowKit Go.Deep Go.Joins
set_option linter.unusedVariables false

theorem nat_u8f {z : Int} (h : (Lit.int .u8 z).wf = true) : ∃ n : Nat, z = n ∧ n < 256 := by
  have := bounds_u8 h
  exact ⟨z.toNat, by omega, by omega⟩

set_option maxRecDepth 100000 in
theorem six_trod {H : Type} {enc : TypeId × Value → H} {W : World} {base fuel : Nat} {sp : Nat → Bool} {held : Bool} {c0 c1 c2 c3 c4 c5 : Value} {y : DataW H × List MemPlace}
    (h : DataW.trod enc Tryd.prog W base sp held fuel 25 [c0, c1, c2, c3, c4, c5] = some y) :
    ∃ x : Nat → Nat, (∀ i, x i < 256) ∧ c0 = .int .u8 (x 0) ∧ c1 = .int .u8 (x 1) ∧ c2 = .int .u8 (x 2) ∧ c3 = .int .u8 (x 3) ∧ c4 = .int .u8 (x 4) ∧ c5 = .int .u8 (x 5) := by
  have hc1 : Tryd.prog.cellsOf 5 = 1 := by kernel_rfl
  obtain ⟨xs, m, _, _, _, hl, hx⟩ := DataW.trod_array Tryd.underlying25 h
  rw [hc1] at hx
  have each : ∀ (i : Nat) (c : Value), i < 6 → ((([c0, c1, c2, c3, c4, c5] : List Value).drop (i * 1)).take 1) = [c] → ∃ n : Nat, c = .int .u8 n ∧ n < 256 := by
    intro i c hi hc
    have h1 := hx i hi
    rw [hc] at h1
    obtain ⟨y, hy⟩ : ∃ y, xs[i]? = some y := ⟨xs[i]'(by omega), List.getElem?_eq_getElem _⟩
    rw [hy] at h1
    obtain ⟨z, e0, _, hw⟩ := DataW.trod_int Tryd.underlying5 h1
    simp only [List.cons.injEq, and_true] at e0
    obtain ⟨n, rfl, hn⟩ := nat_u8f hw
    exact ⟨n, e0, hn⟩
  obtain ⟨n0, rfl, h0⟩ := each 0 c0 (by omega) rfl
  obtain ⟨n1, rfl, h1⟩ := each 1 c1 (by omega) rfl
  obtain ⟨n2, rfl, h2⟩ := each 2 c2 (by omega) rfl
  obtain ⟨n3, rfl, h3⟩ := each 3 c3 (by omega) rfl
  obtain ⟨n4, rfl, h4⟩ := each 4 c4 (by omega) rfl
  obtain ⟨n5, rfl, h5⟩ := each 5 c5 (by omega) rfl
  refine ⟨fun i => if i = 0 then n0 else if i = 1 then n1 else if i = 2 then n2 else if i = 3 then n3 else if i = 4 then n4 else n5, fun i => ?_, rfl, rfl, rfl, rfl, rfl, rfl⟩
  dsimp only
  split
  · exact h0
  split
  · exact h1
  split
  · exact h2
  split
  · exact h3
  split
  · exact h4
  exact h5

theorem list2 {α : Type} (l : List α) (h : l.length = 2) : ∃ c0 c1, l = [c0, c1] := by
  match l, h with
  | [c0, c1], _ => exact ⟨c0, c1, rfl⟩
theorem list3 {α : Type} (l : List α) (h : l.length = 3) : ∃ c0 c1 c2, l = [c0, c1, c2] := by
  match l, h with
  | [c0, c1, c2], _ => exact ⟨c0, c1, c2, rfl⟩
theorem list5 {α : Type} (l : List α) (h : l.length = 5) : ∃ c0 c1 c2 c3 c4, l = [c0, c1, c2, c3, c4] := by
  match l, h with
  | [c0, c1, c2, c3, c4], _ => exact ⟨c0, c1, c2, c3, c4, rfl⟩
theorem list8 {α : Type} (l : List α) (h : l.length = 8) : ∃ c0 c1 c2 c3 c4 c5 c6 c7, l = [c0, c1, c2, c3, c4, c5, c6, c7] := by
  match l, h with
  | [c0, c1, c2, c3, c4, c5, c6, c7], _ => exact ⟨c0, c1, c2, c3, c4, c5, c6, c7, rfl⟩
theorem list21 {α : Type} (l : List α) (h : l.length = 21) : ∃ c0 c1 c2 c3 c4 c5 c6 c7 c8 c9 c10 c11 c12 c13 c14 c15 c16 c17 c18 c19 c20, l = [c0, c1, c2, c3, c4, c5, c6, c7, c8, c9, c10, c11, c12, c13, c14, c15, c16, c17, c18, c19, c20] := by
  match l, h with
  | [c0, c1, c2, c3, c4, c5, c6, c7, c8, c9, c10, c11, c12, c13, c14, c15, c16, c17, c18, c19, c20], _ => exact ⟨c0, c1, c2, c3, c4, c5, c6, c7, c8, c9, c10, c11, c12, c13, c14, c15, c16, c17, c18, c19, c20, rfl⟩

set_option maxRecDepth 100000 in
theorem br_trod {H : Type} {enc : TypeId × Value → H} {W : World} {base fuel : Nat} {sp : Nat → Bool} {held : Bool} {c0 c1 c2 c3 c4 c5 c6 c7 : Value} {y : DataW H × List MemPlace}
    (h : DataW.trod enc Tryd.prog W base sp held fuel 27 [c0, c1, c2, c3, c4, c5, c6, c7] = some y) :
    ∃ b : Br, (∀ i, b.a i < 256) ∧ c0 = .int .i64 b.p ∧ c1 = .int .i64 b.e ∧ c2 = .int .u8 (b.a 0) ∧ c3 = .int .u8 (b.a 1) ∧ c4 = .int .u8 (b.a 2) ∧ c5 = .int .u8 (b.a 3) ∧ c6 = .int .u8 (b.a 4) ∧ c7 = .int .u8 (b.a 5) := by
  have _h1 : Tryd.prog.cellsOf 25 = 6 := by kernel_rfl
  have _h2 : Tryd.prog.cellsOf 3 = 1 := by kernel_rfl
  obtain ⟨xs, n, _, hx, _, hlen, hg⟩ := DataW.trod_struct Tryd.underlying27 h
  obtain ⟨y0, y1, y2, rfl⟩ := list3 xs hlen
  have g0 := hg 0 _ rfl
  have g1 := hg 1 _ rfl
  have g2 := hg 2 _ rfl
  obtain ⟨x0, e0, _, wf0⟩ := DataW.trod_int Tryd.underlying3 g0
  obtain rfl : c0 = .int .i64 x0 := (List.cons.inj (show [c0] = [.int .i64 x0] from e0)).1
  obtain ⟨x1, e1, _, wf1⟩ := DataW.trod_int Tryd.underlying3 g1
  obtain rfl : c1 = .int .i64 x1 := (List.cons.inj (show [c1] = [.int .i64 x1] from e1)).1
  obtain ⟨x2, hx2, rfl, rfl, rfl, rfl, rfl, rfl⟩ := six_trod g2
  exact ⟨⟨x0, x1, x2⟩, hx2, rfl, rfl, rfl, rfl, rfl, rfl, rfl, rfl⟩

set_option maxRecDepth 100000 in
theorem pt_trod {H : Type} {enc : TypeId × Value → H} {W : World} {base fuel : Nat} {sp : Nat → Bool} {held : Bool} {c0 c1 : Value} {y : DataW H × List MemPlace}
    (h : DataW.trod enc Tryd.prog W base sp held fuel 29 [c0, c1] = some y) : ∃ p n : Int, c0 = .int .i64 p ∧ c1 = .int .i64 n := by
  have _h2 : Tryd.prog.cellsOf 3 = 1 := by kernel_rfl
  obtain ⟨xs, n, _, hx, _, hlen, hg⟩ := DataW.trod_struct Tryd.underlying29 h
  obtain ⟨y0, y1, rfl⟩ := list2 xs hlen
  have g0 := hg 0 _ rfl
  have g1 := hg 1 _ rfl
  obtain ⟨x0, e0, _, wf0⟩ := DataW.trod_int Tryd.underlying3 g0
  obtain rfl : c0 = .int .i64 x0 := (List.cons.inj (show [c0] = [.int .i64 x0] from e0)).1
  obtain ⟨x1, e1, _, wf1⟩ := DataW.trod_int Tryd.underlying3 g1
  obtain rfl : c1 = .int .i64 x1 := (List.cons.inj (show [c1] = [.int .i64 x1] from e1)).1
  exact ⟨x0, x1, rfl, rfl⟩



set_option maxRecDepth 100000 in
theorem open_br {H : Type} {enc : TypeId × Value → H} {W : World} {base : Nat} {v : Value} {d : DataW H} {p : List MemPlace} (hval : Value.okWide Tryd.prog W .any base 27 v)
    (h : DataW.Trod enc Tryd.prog W 0 (fun _ => true) true 27 v d p) : ∃ b : Br, (∀ i, b.a i < 256) ∧ v = .agg (brC b) := by
  have hcn : Tryd.prog.cellsOf 27 = 8 := by kernel_rfl
  obtain ⟨cs, rfl, hsz⟩ := okWide_struct Tryd.underlying27 hval
  rw [hcn] at hsz
  obtain ⟨l⟩ := cs
  obtain ⟨c0, c1, c2, c3, c4, c5, c6, c7, rfl⟩ := list8 l hsz
  obtain ⟨fuel, hf⟩ := h
  obtain ⟨b, hb, rfl, rfl, rfl, rfl, rfl, rfl, rfl, rfl⟩ := br_trod (show DataW.trod enc Tryd.prog W 0 (fun _ => true) true fuel 27 [c0, c1, c2, c3, c4, c5, c6, c7] = some _ by simpa [Value.cells] using hf)
  exact ⟨b, hb, rfl⟩

set_option maxRecDepth 100000 in
theorem open_pt {H : Type} {enc : TypeId × Value → H} {W : World} {base : Nat} {v : Value} {d : DataW H} {p : List MemPlace} (hval : Value.okWide Tryd.prog W .any base 29 v)
    (h : DataW.Trod enc Tryd.prog W 0 (fun _ => true) true 29 v d p) : ∃ m n : Int, v = .agg (ptC m n) := by
  have hcn : Tryd.prog.cellsOf 29 = 2 := by kernel_rfl
  obtain ⟨cs, rfl, hsz⟩ := okWide_struct Tryd.underlying29 hval
  rw [hcn] at hsz
  obtain ⟨l⟩ := cs
  obtain ⟨c0, c1, rfl⟩ := list2 l hsz
  obtain ⟨fuel, hf⟩ := h
  obtain ⟨m, n, rfl, rfl⟩ := pt_trod (show DataW.trod enc Tryd.prog W 0 (fun _ => true) true fuel 29 [c0, c1] = some _ by simpa [Value.cells] using hf)
  exact ⟨m, n, rfl⟩




end Go.Proofs.YtajbkoggmhgjfaaDoor

namespace Go.Proofs.YtajbkoggmhgjfaaDoor
open Go.ChangeShapes Go.WideShapes Go.ChangeAt Go.RowKit Go.Deep Go.Joins
set_option linter.unusedVariables false

theorem list7 {α : Type} (l : List α) (h : l.length = 7) : ∃ c0 c1 c2 c3 c4 c5 c6, l = [c0, c1, c2, c3, c4, c5, c6] := by
  match l, h with
  | [c0, c1, c2, c3, c4, c5, c6], _ => exact ⟨c0, c1, c2, c3, c4, c5, c6, rfl⟩
theorem list10 {α : Type} (l : List α) (h : l.length = 10) : ∃ c0 c1 c2 c3 c4 c5 c6 c7 c8 c9, l = [c0, c1, c2, c3, c4, c5, c6, c7, c8, c9] := by
  match l, h with
  | [c0, c1, c2, c3, c4, c5, c6, c7, c8, c9], _ => exact ⟨c0, c1, c2, c3, c4, c5, c6, c7, c8, c9, rfl⟩
theorem list31 {α : Type} (l : List α) (h : l.length = 31) : ∃ c0 c1 c2 c3 c4 c5 c6 c7 c8 c9 c10 c11 c12 c13 c14 c15 c16 c17 c18 c19 c20 c21 c22 c23 c24 c25 c26 c27 c28 c29 c30, l = [c0, c1, c2, c3, c4, c5, c6, c7, c8, c9, c10, c11, c12, c13, c14, c15, c16, c17, c18, c19, c20, c21, c22, c23, c24, c25, c26, c27, c28, c29, c30] := by
  match l, h with
  | [c0, c1, c2, c3, c4, c5, c6, c7, c8, c9, c10, c11, c12, c13, c14, c15, c16, c17, c18, c19, c20, c21, c22, c23, c24, c25, c26, c27, c28, c29, c30], _ => exact ⟨c0, c1, c2, c3, c4, c5, c6, c7, c8, c9, c10, c11, c12, c13, c14, c15, c16, c17, c18, c19, c20, c21, c22, c23, c24, c25, c26, c27, c28, c29, c30, rfl⟩

set_option maxRecDepth 100000 in
theorem fl_trod {H : Type} {enc : TypeId × Value → H} {W : World} {base fuel : Nat} {sp : Nat → Bool} {held : Bool} {c0 c1 c2 c3 c4 c5 c6 : Value} {y : DataW H × List MemPlace}
    (h : DataW.trod enc Tryd.prog W base sp held fuel 23 [c0, c1, c2, c3, c4, c5, c6] = some y) : ∃ f : Fl, [c0, c1, c2, c3, c4, c5, c6] = (flC f).toList := by
  have _h1 : Tryd.prog.cellsOf 4 = 1 := by kernel_rfl
  have _h2 : Tryd.prog.cellsOf 3 = 1 := by kernel_rfl
  obtain ⟨xs, n, _, hx, _, hlen, hg⟩ := DataW.trod_struct Tryd.underlying23 h
  obtain ⟨y0, y1, y2, y3, y4, y5, y6, rfl⟩ := list7 xs hlen
  have g0 := hg 0 _ rfl
  have g1 := hg 1 _ rfl
  have g2 := hg 2 _ rfl
  have g3 := hg 3 _ rfl
  have g4 := hg 4 _ rfl
  have g5 := hg 5 _ rfl
  have g6 := hg 6 _ rfl
  obtain ⟨x0, e0, _⟩ := DataW.trod_bool Tryd.underlying4 g0
  obtain rfl : c0 = .bool x0 := (List.cons.inj (show [c0] = [.bool x0] from e0)).1
  obtain ⟨x1, e1, _⟩ := DataW.trod_bool Tryd.underlying4 g1
  obtain rfl : c1 = .bool x1 := (List.cons.inj (show [c1] = [.bool x1] from e1)).1
  obtain ⟨x2, e2, _, wf2⟩ := DataW.trod_int Tryd.underlying3 g2
  obtain rfl : c2 = .int .i64 x2 := (List.cons.inj (show [c2] = [.int .i64 x2] from e2)).1
  obtain ⟨x3, e3, _⟩ := DataW.trod_bool Tryd.underlying4 g3
  obtain rfl : c3 = .bool x3 := (List.cons.inj (show [c3] = [.bool x3] from e3)).1
  obtain ⟨x4, e4, _⟩ := DataW.trod_bool Tryd.underlying4 g4
  obtain rfl : c4 = .bool x4 := (List.cons.inj (show [c4] = [.bool x4] from e4)).1
  obtain ⟨x5, e5, _⟩ := DataW.trod_bool Tryd.underlying4 g5
  obtain rfl : c5 = .bool x5 := (List.cons.inj (show [c5] = [.bool x5] from e5)).1
  obtain ⟨x6, e6, _⟩ := DataW.trod_bool Tryd.underlying4 g6
  obtain rfl : c6 = .bool x6 := (List.cons.inj (show [c6] = [.bool x6] from e6)).1
  exact ⟨⟨x0, x1, x2, x3, x4, x5, x6⟩, rfl⟩

set_option maxRecDepth 100000 in
theorem open_fl {H : Type} {enc : TypeId × Value → H} {W : World} {base : Nat} {v : Value} {d : DataW H} {p : List MemPlace} (hval : Value.okWide Tryd.prog W .any base 23 v)
    (h : DataW.Trod enc Tryd.prog W 0 (fun _ => true) true 23 v d p) : ∃ f : Fl, v = .agg (flC f) := by
  have hcn : Tryd.prog.cellsOf 23 = 7 := by kernel_rfl
  obtain ⟨cs, rfl, hsz⟩ := okWide_struct Tryd.underlying23 hval
  rw [hcn] at hsz
  obtain ⟨l⟩ := cs
  obtain ⟨c0, c1, c2, c3, c4, c5, c6, rfl⟩ := list7 l hsz
  obtain ⟨fuel, hf⟩ := h
  obtain ⟨f, he⟩ := fl_trod (show DataW.trod enc Tryd.prog W 0 (fun _ => true) true fuel 23 [c0, c1, c2, c3, c4, c5, c6] = some _ by simpa [Value.cells] using hf)
  exact ⟨f, by rw [he]⟩

set_option maxRecDepth 100000 in
theorem open_bp {H : Type} {enc : TypeId × Value → H} {W : World} {base : Nat} {v : Value} {d : DataW H} {p : List MemPlace} (hval : Value.okWide Tryd.prog W .any base 31 v)
    (h : DataW.Trod enc Tryd.prog W 0 (fun _ => true) true 31 v d p) : ∃ b : Bp, byBp b ∧ rgBp b ∧ v = .agg (bpC b) := by
  have hcn : Tryd.prog.cellsOf 31 = 31 := by kernel_rfl
  have _h1 : Tryd.prog.cellsOf 27 = 8 := by kernel_rfl
  have _h3 : Tryd.prog.cellsOf 29 = 2 := by kernel_rfl
  have _h4 : Tryd.prog.cellsOf 23 = 7 := by kernel_rfl
  have _h2 : Tryd.prog.cellsOf 3 = 1 := by kernel_rfl
  obtain ⟨cs, rfl, hsz⟩ := okWide_struct Tryd.underlying31 hval
  rw [hcn] at hsz
  obtain ⟨l⟩ := cs
  obtain ⟨c0, c1, c2, c3, c4, c5, c6, c7, c8, c9, c10, c11, c12, c13, c14, c15, c16, c17, c18, c19, c20, c21, c22, c23, c24, c25, c26, c27, c28, c29, c30, rfl⟩ := list31 l hsz
  obtain ⟨fuel, hf⟩ := h
  have h : DataW.trod enc Tryd.prog W 0 (fun _ => true) true fuel 31 [c0, c1, c2, c3, c4, c5, c6, c7, c8, c9, c10, c11, c12, c13, c14, c15, c16, c17, c18, c19, c20, c21, c22, c23, c24, c25, c26, c27, c28, c29, c30] = some (d, p) := by simpa [Value.cells] using hf
  obtain ⟨xs, n, _, hx, _, hlen, hg⟩ := DataW.trod_struct Tryd.underlying31 h
  obtain ⟨y0, y1, y2, y3, y4, y5, y6, y7, y8, y9, rfl⟩ := list10 xs hlen
  have g0 := hg 0 _ rfl
  have g1 := hg 1 _ rfl
  have g2 := hg 2 _ rfl
  have g3 := hg 3 _ rfl
  have g4 := hg 4 _ rfl
  have g5 := hg 5 _ rfl
  have g6 := hg 6 _ rfl
  have g7 := hg 7 _ rfl
  have g8 := hg 8 _ rfl
  have g9 := hg 9 _ rfl
  obtain ⟨x0, e0, _, wf0⟩ := DataW.trod_int Tryd.underlying3 g0
  obtain rfl : c0 = .int .i64 x0 := (List.cons.inj (show [c0] = [.int .i64 x0] from e0)).1
  obtain ⟨fl, hfl⟩ := fl_trod g1
  simp only [flC, List.cons.injEq, and_true] at hfl
  obtain ⟨rfl, rfl, rfl, rfl, rfl, rfl, rfl⟩ := hfl
  obtain ⟨r, hr, rfl, rfl, rfl, rfl, rfl, rfl, rfl, rfl⟩ := br_trod g2
  obtain ⟨x3, e3, _, wf3⟩ := DataW.trod_int Tryd.underlying3 g3
  obtain rfl : c16 = .int .i64 x3 := (List.cons.inj (show [c16] = [.int .i64 x3] from e3)).1
  obtain ⟨t, ht, rfl, rfl, rfl, rfl, rfl, rfl, rfl, rfl⟩ := br_trod g4
  obtain ⟨p, q, rfl, rfl⟩ := pt_trod g5
  obtain ⟨x6, e6, _, wf6⟩ := DataW.trod_int Tryd.underlying3 g6
  obtain rfl : c27 = .int .i64 x6 := (List.cons.inj (show [c27] = [.int .i64 x6] from e6)).1
  obtain ⟨x7, e7, _, wf7⟩ := DataW.trod_int Tryd.underlying3 g7
  obtain rfl : c28 = .int .i64 x7 := (List.cons.inj (show [c28] = [.int .i64 x7] from e7)).1
  obtain ⟨x8, e8, _, wf8⟩ := DataW.trod_int Tryd.underlying3 g8
  obtain rfl : c29 = .int .i64 x8 := (List.cons.inj (show [c29] = [.int .i64 x8] from e8)).1
  obtain ⟨x9, e9, _, wf9⟩ := DataW.trod_int Tryd.underlying3 g9
  obtain rfl : c30 = .int .i64 x9 := (List.cons.inj (show [c30] = [.int .i64 x9] from e9)).1
  exact ⟨⟨x0, fl, r, x3, t, p, q, x6, x7, x8, x9⟩, ⟨hr, ht⟩, ⟨bounds_i64 wf3, bounds_i64 wf6, bounds_i64 wf7, bounds_i64 wf8, bounds_i64 wf9⟩, rfl⟩

end Go.Proofs.YtajbkoggmhgjfaaDoor

namespace Go.Proofs.YtajbkoggmhgjfaaDoor
open Go.ChangeShapes Go.WideShapes Go.ChangeAt Go.RowKit Go.Deep Go.Joins
set_option linter.unusedVariables false

theorem list6 {α : Type} (l : List α) (h : l.length = 6) : ∃ c0 c1 c2 c3 c4 c5, l = [c0, c1, c2, c3, c4, c5] := by
  match l, h with
  | [c0, c1, c2, c3, c4, c5], _ => exact ⟨c0, c1, c2, c3, c4, c5, rfl⟩
theorem list14 {α : Type} (l : List α) (h : l.length = 14) : ∃ c0 c1 c2 c3 c4 c5 c6 c7 c8 c9 c10 c11 c12 c13, l = [c0, c1, c2, c3, c4, c5, c6, c7, c8, c9, c10, c11, c12, c13] := by
  match l, h with
  | [c0, c1, c2, c3, c4, c5, c6, c7, c8, c9, c10, c11, c12, c13], _ => exact ⟨c0, c1, c2, c3, c4, c5, c6, c7, c8, c9, c10, c11, c12, c13, rfl⟩
theorem list19 {α : Type} (l : List α) (h : l.length = 19) : ∃ c0 c1 c2 c3 c4 c5 c6 c7 c8 c9 c10 c11 c12 c13 c14 c15 c16 c17 c18, l = [c0, c1, c2, c3, c4, c5, c6, c7, c8, c9, c10, c11, c12, c13, c14, c15, c16, c17, c18] := by
  match l, h with
  | [c0, c1, c2, c3, c4, c5, c6, c7, c8, c9, c10, c11, c12, c13, c14, c15, c16, c17, c18], _ => exact ⟨c0, c1, c2, c3, c4, c5, c6, c7, c8, c9, c10, c11, c12, c13, c14, c15, c16, c17, c18, rfl⟩
theorem list45 {α : Type} (l : List α) (h : l.length = 45) : ∃ c0 c1 c2 c3 c4 c5 c6 c7 c8 c9 c10 c11 c12 c13 c14 c15 c16 c17 c18 c19 c20 c21 c22 c23 c24 c25 c26 c27 c28 c29 c30 c31 c32 c33 c34 c35 c36 c37 c38 c39 c40 c41 c42 c43 c44, l = [c0, c1, c2, c3, c4, c5, c6, c7, c8, c9, c10, c11, c12, c13, c14, c15, c16, c17, c18, c19, c20, c21, c22, c23, c24, c25, c26, c27, c28, c29, c30, c31, c32, c33, c34, c35, c36, c37, c38, c39, c40, c41, c42, c43, c44] := by
  obtain ⟨c0, c1, c2, c3, c4, c5, c6, c7, c8, c9, c10, c11, c12, c13, c14, c15, c16, c17, c18, c19, c20, c21, c22, c23, c24, c25, c26, c27, c28, c29, c30, h1⟩ := list31 (l.take 31) (by rw [List.length_take]; omega)
  obtain ⟨c31, c32, c33, c34, c35, c36, c37, c38, c39, c40, c41, c42, c43, c44, h2⟩ := list14 (l.drop 31) (by rw [List.length_drop]; omega)
  exact ⟨c0, c1, c2, c3, c4, c5, c6, c7, c8, c9, c10, c11, c12, c13, c14, c15, c16, c17, c18, c19, c20, c21, c22, c23, c24, c25, c26, c27, c28, c29, c30, c31, c32, c33, c34, c35, c36, c37, c38, c39, c40, c41, c42, c43, c44, by rw [← List.take_append_drop 31 l, h1, h2]; rfl⟩

set_option maxRecDepth 100000 in
theorem bp_trod {H : Type} {enc : TypeId × Value → H} {W : World} {base fuel : Nat} {sp : Nat → Bool} {held : Bool} {c0 c1 c2 c3 c4 c5 c6 c7 c8 c9 c10 c11 c12 c13 c14 c15 c16 c17 c18 c19 c20 c21 c22 c23 c24 c25 c26 c27 c28 c29 c30 : Value} {y : DataW H × List MemPlace}
    (h : DataW.trod enc Tryd.prog W base sp held fuel 31 [c0, c1, c2, c3, c4, c5, c6, c7, c8, c9, c10, c11, c12, c13, c14, c15, c16, c17, c18, c19, c20, c21, c22, c23, c24, c25, c26, c27, c28, c29, c30] = some y) : ∃ b : Bp, byBp b ∧ rgBp b ∧ [c0, c1, c2, c3, c4, c5, c6, c7, c8, c9, c10, c11, c12, c13, c14, c15, c16, c17, c18, c19, c20, c21, c22, c23, c24, c25, c26, c27, c28, c29, c30] = (bpC b).toList := by
  have _h1 : Tryd.prog.cellsOf 27 = 8 := by kernel_rfl
  have _h3 : Tryd.prog.cellsOf 29 = 2 := by kernel_rfl
  have _h4 : Tryd.prog.cellsOf 23 = 7 := by kernel_rfl
  have _h2 : Tryd.prog.cellsOf 3 = 1 := by kernel_rfl
  obtain ⟨xs, n, _, hx, _, hlen, hg⟩ := DataW.trod_struct Tryd.underlying31 h
  obtain ⟨y0, y1, y2, y3, y4, y5, y6, y7, y8, y9, rfl⟩ := list10 xs hlen
  have g0 := hg 0 _ rfl
  have g1 := hg 1 _ rfl
  have g2 := hg 2 _ rfl
  have g3 := hg 3 _ rfl
  have g4 := hg 4 _ rfl
  have g5 := hg 5 _ rfl
  have g6 := hg 6 _ rfl
  have g7 := hg 7 _ rfl
  have g8 := hg 8 _ rfl
  have g9 := hg 9 _ rfl
  obtain ⟨x0, e0, _, wf0⟩ := DataW.trod_int Tryd.underlying3 g0
  obtain rfl : c0 = .int .i64 x0 := (List.cons.inj (show [c0] = [.int .i64 x0] from e0)).1
  obtain ⟨fl, hfl⟩ := fl_trod g1
  simp only [flC, List.cons.injEq, and_true] at hfl
  obtain ⟨rfl, rfl, rfl, rfl, rfl, rfl, rfl⟩ := hfl
  obtain ⟨r, hr, rfl, rfl, rfl, rfl, rfl, rfl, rfl, rfl⟩ := br_trod g2
  obtain ⟨x3, e3, _, wf3⟩ := DataW.trod_int Tryd.underlying3 g3
  obtain rfl : c16 = .int .i64 x3 := (List.cons.inj (show [c16] = [.int .i64 x3] from e3)).1
  obtain ⟨t, ht, rfl, rfl, rfl, rfl, rfl, rfl, rfl, rfl⟩ := br_trod g4
  obtain ⟨p, q, rfl, rfl⟩ := pt_trod g5
  obtain ⟨x6, e6, _, wf6⟩ := DataW.trod_int Tryd.underlying3 g6
  obtain rfl : c27 = .int .i64 x6 := (List.cons.inj (show [c27] = [.int .i64 x6] from e6)).1
  obtain ⟨x7, e7, _, wf7⟩ := DataW.trod_int Tryd.underlying3 g7
  obtain rfl : c28 = .int .i64 x7 := (List.cons.inj (show [c28] = [.int .i64 x7] from e7)).1
  obtain ⟨x8, e8, _, wf8⟩ := DataW.trod_int Tryd.underlying3 g8
  obtain rfl : c29 = .int .i64 x8 := (List.cons.inj (show [c29] = [.int .i64 x8] from e8)).1
  obtain ⟨x9, e9, _, wf9⟩ := DataW.trod_int Tryd.underlying3 g9
  obtain rfl : c30 = .int .i64 x9 := (List.cons.inj (show [c30] = [.int .i64 x9] from e9)).1
  exact ⟨⟨x0, fl, r, x3, t, p, q, x6, x7, x8, x9⟩, ⟨hr, ht⟩, ⟨bounds_i64 wf3, bounds_i64 wf6, bounds_i64 wf7, bounds_i64 wf8, bounds_i64 wf9⟩, rfl⟩

set_option maxRecDepth 100000 in
theorem in_trod {H : Type} {enc : TypeId × Value → H} {W : World} {base fuel : Nat} {sp : Nat → Bool} {held : Bool} {c0 c1 c2 c3 c4 c5 c6 c7 c8 c9 c10 c11 c12 c13 c14 c15 c16 c17 c18 : Value} {y : DataW H × List MemPlace}
    (h : DataW.trod enc Tryd.prog W base sp held fuel 85 [c0, c1, c2, c3, c4, c5, c6, c7, c8, c9, c10, c11, c12, c13, c14, c15, c16, c17, c18] = some y) : ∃ x : Ins, (byIns x ∧ rgIn x) ∧ [c0, c1, c2, c3, c4, c5, c6, c7, c8, c9, c10, c11, c12, c13, c14, c15, c16, c17, c18] = (inC x).toList := by
  have _h1 : Tryd.prog.cellsOf 27 = 8 := by kernel_rfl
  have _h4 : Tryd.prog.cellsOf 23 = 7 := by kernel_rfl
  have _h2 : Tryd.prog.cellsOf 3 = 1 := by kernel_rfl
  obtain ⟨xs, n, _, hx, _, hlen, hg⟩ := DataW.trod_struct Tryd.underlying85 h
  obtain ⟨y0, y1, y2, y3, y4, y5, rfl⟩ := list6 xs hlen
  have g0 := hg 0 _ rfl
  have g1 := hg 1 _ rfl
  have g2 := hg 2 _ rfl
  have g3 := hg 3 _ rfl
  have g4 := hg 4 _ rfl
  have g5 := hg 5 _ rfl
  obtain ⟨fl, hfl⟩ := fl_trod g0
  simp only [flC, List.cons.injEq, and_true] at hfl
  obtain ⟨rfl, rfl, rfl, rfl, rfl, rfl, rfl⟩ := hfl
  obtain ⟨r, hr, rfl, rfl, rfl, rfl, rfl, rfl, rfl, rfl⟩ := br_trod g1
  obtain ⟨x2, e2, _, wf2⟩ := DataW.trod_int Tryd.underlying3 g2
  obtain rfl : c15 = .int .i64 x2 := (List.cons.inj (show [c15] = [.int .i64 x2] from e2)).1
  obtain ⟨x3, e3, _, wf3⟩ := DataW.trod_int Tryd.underlying3 g3
  obtain rfl : c16 = .int .i64 x3 := (List.cons.inj (show [c16] = [.int .i64 x3] from e3)).1
  obtain ⟨x4, e4, _, wf4⟩ := DataW.trod_int Tryd.underlying3 g4
  obtain rfl : c17 = .int .i64 x4 := (List.cons.inj (show [c17] = [.int .i64 x4] from e4)).1
  obtain ⟨x5, e5, _, wf5⟩ := DataW.trod_int Tryd.underlying3 g5
  obtain rfl : c18 = .int .i64 x5 := (List.cons.inj (show [c18] = [.int .i64 x5] from e5)).1
  exact ⟨⟨fl, r, x2, x3, x4, x5⟩, ⟨hr, bounds_i64 wf2, bounds_i64 wf5⟩, rfl⟩

/- A cell that reads as a list of instances. -/
set_option maxRecDepth 100000 in
theorem ins_cell {H : Type} {enc : TypeId × Value → H} {W : World} {fuel : Nat} {z0 : Value} {y : DataW H × List MemPlace}
    (hf : DataW.trod enc Tryd.prog W 0 (fun _ => true) true fuel 32 [z0] = some y) : ∃ (a : Option Addr) (c : Nat) (l : List Ins), z0 = .slice a l.length c ∧ l.length ≤ c ∧ c ≤ maxLen ∧ InIn W a l ∧ ∀ x ∈ l, byIns x ∧ rgIn x := by
  have hs : Tryd.prog.underlying 32 = some (.slice 85) := by kernel_rfl
  have hc3 : Tryd.prog.cellsOf 85 = 19 := by kernel_rfl
  rcases open_slice hs hf with ⟨hc, hx⟩ | ⟨b, n, c, m, k, D, Pl, hc, hb, hl, hm, hmm, hx, hall⟩
  · simp at hc
    subst hc
    exact ⟨none, 0, [], rfl, Nat.le_refl _, by decide, Or.inl rfl, by simp⟩
  · simp at hc
    subst hc
    have hlm : n ≤ m := by rw [hmm]; split <;> omega
    have each : ∀ i, i < n → ∃ t : Ins, (byIns t ∧ rgIn t) ∧ ∀ (j : Nat) (x : Value), (inC t)[j]? = some x → W.cell? (b.add (i * 19 + j)) = some x := by
      intro i hi
      obtain ⟨cs', h1, h2⟩ := hall i (by omega)
      rw [hc3] at h1
      obtain ⟨_, hlen, hcell⟩ := World.cells?_some h1
      obtain ⟨c0, c1, c2, c3, c4, c5, c6, c7, c8, c9, c10, c11, c12, c13, c14, c15, c16, c17, c18, rfl⟩ := list19 cs' hlen
      obtain ⟨t, ht, he⟩ := in_trod h2
      refine ⟨t, ht, fun j x hj => ?_⟩
      have hj2 : j < 19 := (Array.getElem?_eq_some_iff.1 hj).1
      have g := hcell j (by omega)
      rw [add_add] at g
      rw [g]
      have e2 : ([c0, c1, c2, c3, c4, c5, c6, c7, c8, c9, c10, c11, c12, c13, c14, c15, c16, c17, c18] : List Value)[j]? = some x := by rw [he]; simpa using hj
      exact e2
    obtain ⟨z, hz⟩ := choose_lt each
    obtain ⟨bb, bo, bs⟩ := b
    rcases Nat.eq_zero_or_pos n with rfl | q0
    · exact ⟨some ⟨bb, bo, bs⟩, c, [], rfl, hl, hm, Or.inl rfl, by simp⟩
    have h0 := (hz 0 q0).2 0 _ rfl
    have hspot : bs = none := by simpa [Addr.add] using World.cell?_spot h0
    subst hspot
    refine ⟨some ⟨bb, bo, none⟩, c, (List.range n).map z, by simp, by simpa using hl, hm, Or.inr ⟨bb, bo, rfl, ?_, fun j hj k x hx => ?_⟩, ?_⟩
    · have := World.block_lt_of_cell? W _ h0
      simpa [Addr.add] using this
    · have hj' : j < n := by simpa using hj
      simp only [List.getElem_map, List.getElem_range] at hx
      have e0 := (hz j hj').2 k x hx
      rw [add_plain] at e0
      rw [Nat.add_assoc]
      exact e0
    · intro v hv
      obtain ⟨j, hj, rfl⟩ := List.mem_map.1 hv
      exact (hz j (List.mem_range.1 hj)).1

theorem size_of {H : Type} {P : Program} {ts : List TypeId} {ds : List (DataW H)} (h : (DataW.weightsEach P ts ds).all (· ≤ reachBytes) = true) {j : Nat} {t : TypeId} {s : ByteArray} (ht : ts[j]? = some t) (hd : ds[j]? = some (.lit (.string s.data.toList))) : s.size ≤ 140737488355328 := by
  have h1 := sized_string h ht hd
  have h2 := reachBytes_lt
  have e : s.data.toList.length = s.size := by simp
  omega
theorem weights_of {H : Type} {P : Program} {ts : List TypeId} {ds : List (DataW H)} (h : (DataW.weightsEach P ts ds).all (· ≤ reachBytes) = true) {j : Nat} {t : TypeId} {d : DataW H} (ht : ts[j]? = some t) (hd : ds[j]? = some d) : ∀ n ∈ d.weights P t, n ≤ reachBytes := fun m hm => by
  have := List.all_eq_true.1 h m (DataW.weights_mem_each ht hd m hm)
  simpa using this
/-- What an argument's numbers are. -/
def ArgMs (m : Ms) (l : List Ins) : Prop := (byBp m.base ∧ byB m.br ∧ ∀ x ∈ l, byIns x) ∧ rgBp m.base ∧ rgMs m ∧ ∀ x ∈ l, rgIn x

set_option maxRecDepth 100000 in
theorem open_ms {H : Type} {enc : TypeId × Value → H} {W : World} {base : Nat} {v : Value} {d : DataW H} {p : List MemPlace} (hval : Value.okWide Tryd.prog W .any base 34 v)
    (h : DataW.Trod enc Tryd.prog W 0 (fun _ => true) true 34 v d p) : ∃ (m : Ms) (a : Option Addr) (c : Nat) (l : List Ins), (ArgMs m l ∧ InIn W a l ∧ l.length ≤ c ∧ c ≤ maxLen ∧ ((∀ n ∈ d.weights Tryd.prog 34, n ≤ reachBytes) → m.name.size ≤ 140737488355328 ∧ m.dig.size ≤ 140737488355328)) ∧ v = .agg (msC m (.slice a l.length c)) := by
  have hcn : Tryd.prog.cellsOf 34 = 45 := by kernel_rfl
  have _h0 : Tryd.prog.cellsOf 31 = 31 := by kernel_rfl
  have _h1 : Tryd.prog.cellsOf 27 = 8 := by kernel_rfl
  have _h2 : Tryd.prog.cellsOf 3 = 1 := by kernel_rfl
  have _h3 : Tryd.prog.cellsOf 9 = 1 := by kernel_rfl
  have _h4 : Tryd.prog.cellsOf 32 = 1 := by kernel_rfl
  obtain ⟨cs, rfl, hsz⟩ := okWide_struct Tryd.underlying34 hval
  rw [hcn] at hsz
  obtain ⟨l⟩ := cs
  obtain ⟨c0, c1, c2, c3, c4, c5, c6, c7, c8, c9, c10, c11, c12, c13, c14, c15, c16, c17, c18, c19, c20, c21, c22, c23, c24, c25, c26, c27, c28, c29, c30, c31, c32, c33, c34, c35, c36, c37, c38, c39, c40, c41, c42, c43, c44, rfl⟩ := list45 l hsz
  obtain ⟨fuel, hf⟩ := h
  have h : DataW.trod enc Tryd.prog W 0 (fun _ => true) true fuel 34 [c0, c1, c2, c3, c4, c5, c6, c7, c8, c9, c10, c11, c12, c13, c14, c15, c16, c17, c18, c19, c20, c21, c22, c23, c24, c25, c26, c27, c28, c29, c30, c31, c32, c33, c34, c35, c36, c37, c38, c39, c40, c41, c42, c43, c44] = some (d, p) := by simpa [Value.cells] using hf
  obtain ⟨xs, n, _, hx, _, hlen, hg⟩ := DataW.trod_struct Tryd.underlying34 h
  obtain ⟨y0, y1, y2, y3, y4, y5, y6, y7, rfl⟩ := list8 xs hlen
  have g0 := hg 0 _ rfl
  have g1 := hg 1 _ rfl
  have g2 := hg 2 _ rfl
  have g3 := hg 3 _ rfl
  have g4 := hg 4 _ rfl
  have g5 := hg 5 _ rfl
  have g6 := hg 6 _ rfl
  have g7 := hg 7 _ rfl
  obtain ⟨bb, hby, hrg, hbb⟩ := bp_trod g0
  simp only [bpC, List.cons.injEq, and_true] at hbb
  obtain ⟨rfl, rfl, rfl, rfl, rfl, rfl, rfl, rfl, rfl, rfl, rfl, rfl, rfl, rfl, rfl, rfl, rfl, rfl, rfl, rfl, rfl, rfl, rfl, rfl, rfl, rfl, rfl, rfl, rfl, rfl, rfl⟩ := hbb
  obtain ⟨x1, e1, q1, sb1⟩ := DataW.trod_string Tryd.underlying9 g1
  obtain rfl : c31 = .string x1 := (List.cons.inj (show [c31] = [.string x1] from e1)).1
  obtain ⟨x2, e2, _, wf2⟩ := DataW.trod_int Tryd.underlying3 g2
  obtain rfl : c32 = .int .i64 x2 := (List.cons.inj (show [c32] = [.int .i64 x2] from e2)).1
  obtain ⟨x3, e3, q3, sb3⟩ := DataW.trod_string Tryd.underlying9 g3
  obtain rfl : c33 = .string x3 := (List.cons.inj (show [c33] = [.string x3] from e3)).1
  obtain ⟨x4, e4, _, wf4⟩ := DataW.trod_int Tryd.underlying3 g4
  obtain rfl : c34 = .int .i64 x4 := (List.cons.inj (show [c34] = [.int .i64 x4] from e4)).1
  obtain ⟨r, hr, rfl, rfl, rfl, rfl, rfl, rfl, rfl, rfl⟩ := br_trod g5
  obtain ⟨x6, e6, _, wf6⟩ := DataW.trod_int Tryd.underlying3 g6
  obtain rfl : c43 = .int .i64 x6 := (List.cons.inj (show [c43] = [.int .i64 x6] from e6)).1
  obtain ⟨a, c, li, rfl, hlc, hcm, hin, hall⟩ := ins_cell g7
  refine ⟨⟨bb, x1, x2, x3, x4, r, x6⟩, a, c, li, ⟨⟨⟨hby, hr, fun x hx => (hall x hx).1⟩, hrg, ⟨bounds_i64 wf2, bounds_i64 wf4, bounds_i64 wf6⟩, fun x hx => (hall x hx).2⟩, hin, hlc, hcm, fun hw => ?_⟩, rfl⟩
  simp only [Prod.mk.injEq] at hx
  have hd : d = .agg [y0.1, y1.1, y2.1, y3.1, y4.1, y5.1, y6.1, y7.1] := hx.1
  rw [hd] at hw
  have hW : DataW.weights Tryd.prog 34 (.agg [y0.1, y1.1, y2.1, y3.1, y4.1, y5.1, y6.1, y7.1]) = DataW.weightsEach Tryd.prog [31, 9, 3, 9, 3, 27, 3, 32] [y0.1, y1.1, y2.1, y3.1, y4.1, y5.1, y6.1, y7.1] := by
    rw [DataW.weights, Tryd.underlying34]
    rfl
  rw [hW] at hw
  have h1 : y1.1 = .lit (.string x1.data.toList) := by rw [q1]
  have h3 : y3.1 = .lit (.string x3.data.toList) := by rw [q3]
  have w1 := hw x1.data.toList.length (DataW.weights_mem_each (j := 1) rfl rfl _ (by rw [h1]; simp [DataW.weights]))
  have w3 := hw x3.data.toList.length (DataW.weights_mem_each (j := 3) rfl rfl _ (by rw [h3]; simp [DataW.weights]))
  have l1 : x1.data.toList.length = x1.size := by simp
  have l3 : x3.data.toList.length = x3.size := by simp
  have := reachBytes_lt
  exact ⟨by show x1.size ≤ _; omega, by show x3.size ≤ _; omega⟩

end Go.Proofs.YtajbkoggmhgjfaaDoor
