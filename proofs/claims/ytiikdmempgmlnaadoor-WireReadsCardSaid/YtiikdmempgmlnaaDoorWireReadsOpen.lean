/- What a slice of things to do holds, and the table of powers off a row's list. -/
import Derived.Test.YtiikdmempgmlnaaDoorWireReads
import Derived.Test.YtiikdmempgmlnaaDoorFrame
import Derived.Deep.SlicePairs
import Derived.WideKeyArgs
namespace Go.Proofs.YtiikdmempgmlnaaDoor
open Go.ChangeShapes Go.WideShapes Go.ChangeAt Go.RowKit Go.Deep
set_option linter.unusedVariables false

/-- A list that holds the table of powers says what Itoa asks. -/
theorem hasTab_of_laid {W : World} {l : List (String × DataW Unit)} (h : laidMetH Tryd.prog l W)
    (e : ((l.filter fun x => x.2.handleName?.isNone).filter fun x => x.1 == "internal/strconv.uint64pow10") = [("internal/strconv.uint64pow10", Lib.tabData .u64 Lib.pow10Tab)]) : HasTab W := by
  have h1 := (laidMetH_iff.1 h).1.filter (fun x => x.1 == "internal/strconv.uint64pow10")
  rw [e] at h1
  exact Lib.tabIs_of_head (g := 1) (t := 120) (e := 22) (n := 20) Tryd.gPow (by kernel_rfl) (by kernel_rfl) (by kernel_rfl) (by kernel_rfl) (by kernel_rfl) h1

theorem reads_under : ∃ f0 f1 : Field, Tryd.prog.underlying 42 = some (.struct #[f0, f1]) ∧ f0.offset = 0 ∧ f1.offset = 1 ∧ f0.type = 3 ∧ f1.type = 3 :=
  ⟨_, _, (by kernel_rfl : Tryd.prog.underlying 42 = some (.struct #[{ name := "What", type := 3, offset := 0, embedded := false, tag := "", pkgPath := "", byteOffset := 0 }, { name := "N", type := 3, offset := 1, embedded := false, tag := "", pkgPath := "", byteOffset := 8 }])), rfl, rfl, rfl, rfl⟩

set_option maxRecDepth 100000 in
theorem open_reads {H : Type} {enc : TypeId × Value → H} {W : World} {base : Nat} {v : Value} {d : DataW H} {p : List MemPlace} (hval : Value.okWide Tryd.prog W .any base 33 v)
    (h : DataW.Trod enc Tryd.prog W 0 (fun _ => true) true 33 v d p) :
    ∃ (a : Option Addr) (l : List (Int × Int)) (lb lo lc : Nat), v = .slice a l.length lc ∧ (0 < l.length → a = some ⟨lb, lo, none⟩ ∧ lb < W.heap.size ∧ ReadsAt W lb lo l) := by
  obtain ⟨f0, f1, hu, ho0, ho1, ht0, ht1⟩ := reads_under
  have hs : Tryd.prog.underlying 33 = some (.slice 42) := by kernel_rfl
  have hi : Tryd.prog.underlying 3 = some (.int .i64) := by kernel_rfl
  have hc2 : Tryd.prog.cellsOf 42 = 2 := by kernel_rfl
  have hc1 : Tryd.prog.cellsOf 3 = 1 := by kernel_rfl
  obtain ⟨a, n, c, rfl⟩ := okWide_slice hs hval
  obtain ⟨fuel, hf⟩ := h
  rcases open_slice_pairs hs hu hc2 ho0 ho1 (by rw [ht0]; exact hc1) (by rw [ht1]; exact hc1) hf with ⟨hc, hx⟩ | ⟨b, len, cap, m, k, V0, V1, D0, D1, P0, P1, hc, hb, hl, hm, hmm, hx, hall⟩
  · simp [Value.cells] at hc
    obtain ⟨rfl, rfl, rfl⟩ := hc
    exact ⟨none, [], 0, 0, 0, rfl, fun q => absurd q (by simp)⟩
  · simp [Value.cells] at hc
    obtain ⟨rfl, rfl, rfl⟩ := hc
    have hlm : n ≤ m := by rw [hmm]; split <;> omega
    have each : ∀ i, i < n → ∃ z : Int × Int, W.cell? (b.add (i * 2)) = some (.int .i64 z.1) ∧ W.cell? (b.add (i * 2 + 1)) = some (.int .i64 z.2) := by
      intro i hi2
      obtain ⟨g0, g1, t0, t1⟩ := hall i (by omega)
      rw [ht0] at t0
      rw [ht1] at t1
      obtain ⟨z0, e0, _, _⟩ := DataW.trod_int hi t0
      obtain ⟨z1, e1, _, _⟩ := DataW.trod_int hi t1
      simp only [List.cons.injEq, and_true] at e0 e1
      exact ⟨(z0, z1), by rw [g0, e0], by rw [g1, e1]⟩
    obtain ⟨z, hz⟩ := choose_lt each
    obtain ⟨bb, bo, bs⟩ := b
    refine ⟨some ⟨bb, bo, bs⟩, (List.range n).map z, bb, bo, c, by simp, fun q => ?_⟩
    have q0 : 0 < n := by simpa using q
    have h0 := (hz 0 q0).1
    have hspot : bs = none := by simpa [Addr.add] using World.cell?_spot h0
    subst hspot
    refine ⟨rfl, ?_, fun j hj => ?_⟩
    · have := World.block_lt_of_cell? W _ h0
      simpa [Addr.add] using this
    · have hj' : j < n := by simpa using hj
      obtain ⟨e0, e1⟩ := hz j hj'
      simp only [List.getElem_map, List.getElem_range]
      rw [add_plain] at e0 e1
      exact ⟨e0, e1⟩
end Go.Proofs.YtiikdmempgmlnaaDoor
