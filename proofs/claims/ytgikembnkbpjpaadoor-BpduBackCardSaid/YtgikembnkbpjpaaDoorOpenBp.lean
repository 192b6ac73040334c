/- Arguments opened: flags, BPDUs. -/
import Derived.Test.YtgikembnkbpjpaaDoorOpenVe
import Derived.Test.YtgikembnkbpjpaaDoorBp
import Derived.Test.YtgikembnkbpjpaaDoorBpFits
namespace Go.Proofs.YtgikembnkbpjpaaDoor
open Go.ChangeShapes Go.WideShapes Go.ChangeAt Go.RowKit Go.Deep Go.Joins
set_option linter.unusedVariables false

theorem list7 {α : Type} (l : List α) (h : l.length = 7) : ∃ c0 c1 c2 c3 c4 c5 c6, l = [c0, c1, c2, c3, c4, c5, c6] := by
  match l, h with
  | [c0, c1, c2, c3, c4, c5, c6], _ => exact ⟨c0, c1, c2, c3, c4, c5, c6, rfl⟩
theorem list10 {α : Type} (l : List α) (h : l.length = 10) : ∃ c0 c1 c2 c3 c4 c5 c6 c7 c8 c9, l = [c0, c1, c2, c3, c4, c5, c6, c7, c8, c9] := by
  match l, h with
  | [c0, c1, c2, c3, c4, c5, c6, c7, c8, c9], _ => exact ⟨c0, c1, c2, c3, c4, c5, c6, c7, c8, c9, rfl⟩
theorem list31 {α : Type} (l : List α) (h : l.length = 31) : ∃ c0 c1 c2 c3 c4 c5 c6 c7 c8 c9 c10 c11 c12 c13 c14 c15 c16 c17 c18 c19 c20 c21 c22 c23 c24 c25 c26 c27 c28 c29 c30, l = [c0, c1, c2, c3, c4, c5, c6, c7, c8, c9, c10, c11, c12, c13, c14, c15, c16, c17, c18, c19, c20, c21, c22, c23, c24, c25, c26, c27, c28, c29, c30] := by
  match l, h with
  | [c0, c1, c2, c3, c4, c5, c6, c7, c8, c9, c10, c11, c12, c13, c14, c15, c16, c17, c18, c19, c20, c21, c22, c23, c24, c25, c26, c27, c28, c29, c30], _ => exact ⟨c0, c1, c2, c3, c4, c5, c6, c7, c8, c9, c10, c11, c12, c13, c14, c15, c16, c17, c18, c19, c20, c21, c22, c23, c24, c25, c26, c27, c28, c29, c30, rfl⟩

set_option maxRecDepth 100000 in
theorem fl_trod {H : Type} {enc : TypeId × Value → H} {W : World} {base fuel : Nat} {sp : Nat → Bool} {held : Bool} {c0 c1 c2 c3 c4 c5 c6 : Value} {y : DataW H × List MemPlace}
    (h : DataW.trod enc Tryd.prog W base sp held fuel 23 [c0, c1, c2, c3, c4, c5, c6] = some y) : ∃ f : Fl, [c0, c1, c2, c3, c4, c5, c6] = (flC f).toList := by
  have _h1 : Tryd.prog.cellsOf 4 = 1 := by kernel_rfl
  have _h2 : Tryd.prog.cellsOf 3 = 1 := by kernel_rfl
  obtain ⟨xs, n, _, hx, _, hlen, hg⟩ := DataW.trod_struct Tryd.underlying23 h
  obtain ⟨y0, y1, y2, y3, y4, y5, y6, rfl⟩ := list7 xs hlen
  have g0 := hg 0 _ rfl
  have g1 := hg 1 _ rfl
  have g2 := hg 2 _ rfl
  have g3 := hg 3 _ rfl
  have g4 := hg 4 _ rfl
  have g5 := hg 5 _ rfl
  have g6 := hg 6 _ rfl
  obtain ⟨x0, e0, _⟩ := DataW.trod_bool Tryd.underlying4 g0
  obtain rfl : c0 = .bool x0 := (List.cons.inj (show [c0] = [.bool x0] from e0)).1
  obtain ⟨x1, e1, _⟩ := DataW.trod_bool Tryd.underlying4 g1
  obtain rfl : c1 = .bool x1 := (List.cons.inj (show [c1] = [.bool x1] from e1)).1
  obtain ⟨x2, e2, _, wf2⟩ := DataW.trod_int Tryd.underlying3 g2
  obtain rfl : c2 = .int .i64 x2 := (List.cons.inj (show [c2] = [.int .i64 x2] from e2)).1
  obtain ⟨x3, e3, _⟩ := DataW.trod_bool Tryd.underlying4 g3
  obtain rfl : c3 = .bool x3 := (List.cons.inj (show [c3] = [.bool x3] from e3)).1
  obtain ⟨x4, e4, _⟩ := DataW.trod_bool Tryd.underlying4 g4
  obtain rfl : c4 = .bool x4 := (List.cons.inj (show [c4] = [.bool x4] from e4)).1
  obtain ⟨x5, e5, _⟩ := DataW.trod_bool Tryd.underlying4 g5
  obtain rfl : c5 = .bool x5 := (List.cons.inj (show [c5] = [.bool x5] from e5)).1
  obtain ⟨x6, e6, _⟩ := DataW.trod_bool Tryd.underlying4 g6
  obtain rfl : c6 = .bool x6 := (List.cons.inj (show [c6] = [.bool x6] from e6)).1
  exact ⟨⟨x0, x1, x2, x3, x4, x5, x6⟩, rfl⟩

set_option maxRecDepth 100000 in
theorem open_fl {H : Type} {enc : TypeId × Value → H} {W : World} {base : Nat} {v : Value} {d : DataW H} {p : List MemPlace} (hval : Value.okWide Tryd.prog W .any base 23 v)
    (h : DataW.Trod enc Tryd.prog W 0 (fun _ => true) true 23 v d p) : ∃ f : Fl, v = .agg (flC f) := by
  have hcn : Tryd.prog.cellsOf 23 = 7 := by kernel_rfl
  obtain ⟨cs, rfl, hsz⟩ := okWide_struct Tryd.underlying23 hval
  rw [hcn] at hsz
  obtain ⟨l⟩ := cs
  obtain ⟨c0, c1, c2, c3, c4, c5, c6, rfl⟩ := list7 l hsz
  obtain ⟨fuel, hf⟩ := h
  obtain ⟨f, he⟩ := fl_trod (show DataW.trod enc Tryd.prog W 0 (fun _ => true) true fuel 23 [c0, c1, c2, c3, c4, c5, c6] = some _ by simpa [Value.cells] using hf)
  exact ⟨f, by rw [he]⟩

set_option maxRecDepth 100000 in
theorem open_bp {H : Type} {enc : TypeId × Value → H} {W : World} {base : Nat} {v : Value} {d : DataW H} {p : List MemPlace} (hval : Value.okWide Tryd.prog W .any base 31 v)
    (h : DataW.Trod enc Tryd.prog W 0 (fun _ => true) true 31 v d p) : ∃ b : Bp, byBp b ∧ rgBp b ∧ v = .agg (bpC b) := by
  have hcn : Tryd.prog.cellsOf 31 = 31 := by kernel_rfl
  have _h1 : Tryd.prog.cellsOf 27 = 8 := by kernel_rfl
  have _h3 : Tryd.prog.cellsOf 29 = 2 := by kernel_rfl
  have _h4 : Tryd.prog.cellsOf 23 = 7 := by kernel_rfl
  have _h2 : Tryd.prog.cellsOf 3 = 1 := by kernel_rfl
  obtain ⟨cs, rfl, hsz⟩ := okWide_struct Tryd.underlying31 hval
  rw [hcn] at hsz
  obtain ⟨l⟩ := cs
  obtain ⟨c0, c1, c2, c3, c4, c5, c6, c7, c8, c9, c10, c11, c12, c13, c14, c15, c16, c17, c18, c19, c20, c21, c22, c23, c24, c25, c26, c27, c28, c29, c30, rfl⟩ := list31 l hsz
  obtain ⟨fuel, hf⟩ := h
  have h : DataW.trod enc Tryd.prog W 0 (fun _ => true) true fuel 31 [c0, c1, c2, c3, c4, c5, c6, c7, c8, c9, c10, c11, c12, c13, c14, c15, c16, c17, c18, c19, c20, c21, c22, c23, c24, c25, c26, c27, c28, c29, c30] = some (d, p) := by simpa [Value.cells] using hf
  obtain ⟨xs, n, _, hx, _, hlen, hg⟩ := DataW.trod_struct Tryd.underlying31 h
  obtain ⟨y0, y1, y2, y3, y4, y5, y6, y7, y8, y9, rfl⟩ := list10 xs hlen
  have g0 := hg 0 _ rfl
  have g1 := hg 1 _ rfl
  have g2 := hg 2 _ rfl
  have g3 := hg 3 _ rfl
  have g4 := hg 4 _ rfl
  have g5 := hg 5 _ rfl
  have g6 := hg 6 _ rfl
  have g7 := hg 7 _ rfl
  have g8 := hg 8 _ rfl
  have g9 := hg 9 _ rfl
  obtain ⟨x0, e0, _, wf0⟩ := DataW.trod_int Tryd.underlying3 g0
  obtain rfl : c0 = .int .i64 x0 := (List.cons.inj (show [c0] = [.int .i64 x0] from e0)).1
  obtain ⟨fl, hfl⟩ := fl_trod g1
  simp only [flC, List.cons.injEq, and_true] at hfl
  obtain ⟨rfl, rfl, rfl, rfl, rfl, rfl, rfl⟩ := hfl
  obtain ⟨r, hr, rfl, rfl, rfl, rfl, rfl, rfl, rfl, rfl⟩ := br_trod g2
  obtain ⟨x3, e3, _, wf3⟩ := DataW.trod_int Tryd.underlying3 g3
  obtain rfl : c16 = .int .i64 x3 := (List.cons.inj (show [c16] = [.int .i64 x3] from e3)).1
  obtain ⟨t, ht, rfl, rfl, rfl, rfl, rfl, rfl, rfl, rfl⟩ := br_trod g4
  obtain ⟨p, q, rfl, rfl⟩ := pt_trod g5
  obtain ⟨x6, e6, _, wf6⟩ := DataW.trod_int Tryd.underlying3 g6
  obtain rfl : c27 = .int .i64 x6 := (List.cons.inj (show [c27] = [.int .i64 x6] from e6)).1
  obtain ⟨x7, e7, _, wf7⟩ := DataW.trod_int Tryd.underlying3 g7
  obtain rfl : c28 = .int .i64 x7 := (List.cons.inj (show [c28] = [.int .i64 x7] from e7)).1
  obtain ⟨x8, e8, _, wf8⟩ := DataW.trod_int Tryd.underlying3 g8
  obtain rfl : c29 = .int .i64 x8 := (List.cons.inj (show [c29] = [.int .i64 x8] from e8)).1
  obtain ⟨x9, e9, _, wf9⟩ := DataW.trod_int Tryd.underlying3 g9
  obtain rfl : c30 = .int .i64 x9 := (List.cons.inj (show [c30] = [.int .i64 x9] from e9)).1
  exact ⟨⟨x0, fl, r, x3, t, p, q, x6, x7, x8, x9⟩, ⟨hr, ht⟩, ⟨bounds_i64 wf3, bounds_i64 wf6, bounds_i64 wf7, bounds_i64 wf8, bounds_i64 wf9⟩, rfl⟩

end Go.Proofs.YtgikembnkbpjpaaDoor
