/- Trips that come in. -/
import Derived.Test.YtdceggekhhflgaaTrM
import Derived.Test.YtdceggekhhflgaaPost
import Derived.ProofKit
import Derived.OpenShut
import Derived.WideKeyArgs
import Derived.WideShapes
import Derived.SizedLaws
import Derived.Lib.SmallJoins
import Derived.Deep.SlicePairs
namespace Go.Proofs.Ytdceggekhhflgaa
open Go.ChangeShapes Go.WideShapes Go.ChangeAt Go.RowKit Go.Deep Go.Joins
set_option linter.unusedVariables false

theorem tr_list6 {α : Type} (l : List α) (h : l.length = 6) : ∃ c0 c1 c2 c3 c4 c5, l = [c0, c1, c2, c3, c4, c5] := by
  match l, h with
  | [c0, c1, c2, c3, c4, c5], _ => exact ⟨c0, c1, c2, c3, c4, c5, rfl⟩

set_option maxRecDepth 100000 in
theorem tr_trod {H : Type} {enc : TypeId × Value → H} {W : World} {fuel : Nat} {c0 c1 c2 c3 c4 c5 : Value} {y : DataW H × List MemPlace}
    (h : DataW.trod enc Try.prog W 0 (fun _ => true) true fuel 24 [c0, c1, c2, c3, c4, c5] = some y) : ∃ x : Tr, True ∧ [c0, c1, c2, c3, c4, c5] = (trC x).toList := by
  have _h2 : Try.prog.cellsOf 3 = 1 := by kernel_rfl
  have _h3 : Try.prog.cellsOf 4 = 1 := by kernel_rfl
  obtain ⟨xs, n, _, hx, _, hlen, hg⟩ := DataW.trod_struct Try.underlying24 h
  obtain ⟨y0, y1, y2, y3, y4, y5, rfl⟩ := tr_list6 xs hlen
  have g0 := hg 0 _ rfl
  have g1 := hg 1 _ rfl
  have g2 := hg 2 _ rfl
  have g3 := hg 3 _ rfl
  have g4 := hg 4 _ rfl
  have g5 := hg 5 _ rfl
  obtain ⟨x0, e0, _, wf0⟩ := DataW.trod_int Try.underlying3 g0
  obtain rfl : c0 = .int .i64 x0 := (List.cons.inj (show [c0] = [.int .i64 x0] from e0)).1
  obtain ⟨x1, e1, _, wf1⟩ := DataW.trod_int Try.underlying3 g1
  obtain rfl : c1 = .int .i64 x1 := (List.cons.inj (show [c1] = [.int .i64 x1] from e1)).1
  obtain ⟨x2, e2, _, wf2⟩ := DataW.trod_int Try.underlying3 g2
  obtain rfl : c2 = .int .i64 x2 := (List.cons.inj (show [c2] = [.int .i64 x2] from e2)).1
  obtain ⟨x3, e3, _, wf3⟩ := DataW.trod_int Try.underlying3 g3
  obtain rfl : c3 = .int .i64 x3 := (List.cons.inj (show [c3] = [.int .i64 x3] from e3)).1
  obtain ⟨x4, e4, _, wf4⟩ := DataW.trod_int Try.underlying3 g4
  obtain rfl : c4 = .int .i64 x4 := (List.cons.inj (show [c4] = [.int .i64 x4] from e4)).1
  obtain ⟨x5, e5, _⟩ := DataW.trod_bool Try.underlying4 g5
  obtain rfl : c5 = .bool x5 := (List.cons.inj (show [c5] = [.bool x5] from e5)).1
  exact ⟨⟨x0, x1, x2, x3, x4, x5⟩, trivial, rfl⟩

set_option maxRecDepth 100000 in
theorem trs_cell {H : Type} {enc : TypeId × Value → H} {W : World} {fuel : Nat} {z0 : Value} {y : DataW H × List MemPlace}
    (hf : DataW.trod enc Try.prog W 0 (fun _ => true) true fuel 22 [z0] = some y) : ∃ (a : Option Addr) (c : Nat) (l : List Tr), z0 = .slice a l.length c ∧ l.length ≤ c ∧ c ≤ maxLen ∧ TrIn W a l ∧ ∀ x ∈ l, True := by
  have hs : Try.prog.underlying 22 = some (.slice 24) := by kernel_rfl
  have hc3 : Try.prog.cellsOf 24 = 6 := by kernel_rfl
  rcases open_slice hs hf with ⟨hc, hx⟩ | ⟨b, n, c, m, k, D, Pl, hc, hb, hl, hm, hmm, hx, hall⟩
  · simp at hc
    subst hc
    exact ⟨none, 0, [], rfl, Nat.le_refl _, by decide, Or.inl rfl, by simp⟩
  · simp at hc
    subst hc
    have hlm : n ≤ m := by rw [hmm]; split <;> omega
    have each : ∀ i, i < n → ∃ t : Tr, True ∧ ∀ (j : Nat) (x : Value), (trC t)[j]? = some x → W.cell? (b.add (i * 6 + j)) = some x := by
      intro i hi
      obtain ⟨cs', h1, h2⟩ := hall i (by omega)
      rw [hc3] at h1
      obtain ⟨_, hlen, hcell⟩ := World.cells?_some h1
      obtain ⟨c0, c1, c2, c3, c4, c5, rfl⟩ := tr_list6 cs' hlen
      obtain ⟨t, hok, he⟩ := tr_trod h2
      refine ⟨t, hok, fun j x hj => ?_⟩
      have hj2 : j < 6 := (Array.getElem?_eq_some_iff.1 hj).1
      have g := hcell j (by omega)
      rw [add_add] at g
      rw [g]
      have e2 : ([c0, c1, c2, c3, c4, c5] : List Value)[j]? = some x := by rw [he]; simpa using hj
      exact e2
    obtain ⟨z, hz⟩ := choose_lt each
    obtain ⟨bb, bo, bs⟩ := b
    rcases Nat.eq_zero_or_pos n with rfl | q0
    · exact ⟨some ⟨bb, bo, bs⟩, c, [], rfl, hl, hm, Or.inl rfl, by simp⟩
    have h0 := (hz 0 q0).2 0 _ rfl
    have hspot : bs = none := by simpa [Addr.add] using World.cell?_spot h0
    subst hspot
    refine ⟨some ⟨bb, bo, none⟩, c, (List.range n).map z, by simp, by simpa using hl, hm, Or.inr ⟨bb, bo, rfl, ?_, fun j hj k x hx => ?_⟩, fun x hx => ?_⟩
    · have := World.block_lt_of_cell? W _ h0
      simpa [Addr.add] using this
    · have hj' : j < n := by simpa using hj
      simp only [List.getElem_map, List.getElem_range] at hx
      have e0 := (hz j hj').2 k x hx
      rw [add_plain] at e0
      rw [Nat.add_assoc]
      exact e0
    · obtain ⟨i, hi, rfl⟩ := List.mem_map.1 hx
      exact (hz i (List.mem_range.1 hi)).1

set_option maxRecDepth 100000 in
theorem open_trs {H : Type} {enc : TypeId × Value → H} {W : World} {base : Nat} {v : Value} {d : DataW H} {p : List MemPlace} (hval : Value.okWide Try.prog W .any base 22 v)
    (h : DataW.Trod enc Try.prog W 0 (fun _ => true) true 22 v d p) : ∃ (a : Option Addr) (c : Nat) (l : List Tr), v = .slice a l.length c ∧ l.length ≤ c ∧ c ≤ maxLen ∧ TrIn W a l ∧ ∀ x ∈ l, True := by
  have hs : Try.prog.underlying 22 = some (.slice 24) := by kernel_rfl
  obtain ⟨a, n, c, rfl⟩ := okWide_slice hs hval
  obtain ⟨fuel, hf⟩ := h
  exact trs_cell (show DataW.trod enc Try.prog W 0 (fun _ => true) true fuel 22 [.slice a n c] = some _ by simpa [Value.cells] using hf)

set_option maxRecDepth 100000 in
theorem open_tr {H : Type} {enc : TypeId × Value → H} {W : World} {base : Nat} {v : Value} {d : DataW H} {p : List MemPlace} (hval : Value.okWide Try.prog W .any base 24 v)
    (h : DataW.Trod enc Try.prog W 0 (fun _ => true) true 24 v d p) : ∃ x : Tr, v = .agg (trC x) := by
  have hcn : Try.prog.cellsOf 24 = 6 := by kernel_rfl
  obtain ⟨cs, rfl, hsz⟩ := okWide_struct Try.underlying24 hval
  rw [hcn] at hsz
  obtain ⟨l⟩ := cs
  obtain ⟨c0, c1, c2, c3, c4, c5, rfl⟩ := tr_list6 l hsz
  obtain ⟨fuel, hf⟩ := h
  obtain ⟨x, _, hx⟩ := tr_trod (show DataW.trod enc Try.prog W 0 (fun _ => true) true fuel 24 [c0, c1, c2, c3, c4, c5] = some _ by simpa [Value.cells] using hf)
  exact ⟨x, by rw [hx]⟩

end Go.Proofs.Ytdceggekhhflgaa
