/- Tags that come in: one, and a list of them. -/
import Derived.Test.YtmlnkellfbobcaaTagStack
import Derived.ProofKit
import Derived.OpenShut
import Derived.WideKeyArgs
import Derived.Deep.SlicePairs
namespace Go.Proofs.Ytmlnkellfbobcaa
open Go.ChangeShapes Go.WideShapes Go.ChangeAt Go.RowKit Go.Deep Go.Joins
set_option linter.unusedVariables false

set_option maxRecDepth 100000 in
theorem tag_under : ∃ f0 f1 f2 f3 : Field, Try.prog.underlying 38 = some (.struct #[f0, f1, f2, f3]) ∧ (f0.type = 4 ∧ f1.type = 3 ∧ f2.type = 4 ∧ f3.type = 3) ∧ f0.offset = 0 ∧ f1.offset = 1 ∧ f2.offset = 2 ∧ f3.offset = 3 :=
  ⟨_, _, _, _, (by kernel_rfl : Try.prog.underlying 38 = some (.struct #[{ name := "S", type := 4, offset := 0, embedded := false, tag := "", pkgPath := "", byteOffset := 0 }, { name := "Pcp", type := 3, offset := 1, embedded := false, tag := "", pkgPath := "", byteOffset := 8 }, { name := "Dei", type := 4, offset := 2, embedded := false, tag := "", pkgPath := "", byteOffset := 16 }, { name := "Vid", type := 3, offset := 3, embedded := false, tag := "", pkgPath := "", byteOffset := 24 }])), ⟨rfl, rfl, rfl, rfl⟩, rfl, rfl, rfl, rfl⟩

/- Four cells that read as a tag. -/
set_option maxRecDepth 100000 in
theorem tag_cells {H : Type} {enc : TypeId × Value → H} {W : World} {base fuel : Nat} {sp : Nat → Bool} {held : Bool} {c0 c1 c2 c3 : Value} {y : DataW H × List MemPlace}
    (h : DataW.trod enc Try.prog W base sp held fuel 38 [c0, c1, c2, c3] = some y) : ∃ t : Tg, c0 = .bool t.s ∧ c1 = .int .i64 t.p ∧ c2 = .bool t.d ∧ c3 = .int .i64 t.v ∧ (Lit.int .i64 t.p).wf = true ∧ (Lit.int .i64 t.v).wf = true := by
  obtain ⟨f0, f1, f2, f3, hu, ⟨t0, t1, t2, t3⟩, o0, o1, o2, o3⟩ := tag_under
  have hb1 : Try.prog.cellsOf 4 = 1 := by kernel_rfl
  have hi1 : Try.prog.cellsOf 3 = 1 := by kernel_rfl
  obtain ⟨y0, y1, y2, y3, n, _, _, h0, h1, h2, h3⟩ := trod_struct4 hu h
  rw [o0, t0, hb1] at h0
  rw [o1, t1, hi1] at h1
  rw [o2, t2, hb1] at h2
  rw [o3, t3, hi1] at h3
  obtain ⟨s, e0, _⟩ := DataW.trod_bool Try.underlying4 h0
  obtain ⟨p, e1, _, w1⟩ := DataW.trod_int Try.underlying3 h1
  obtain ⟨d, e2, _⟩ := DataW.trod_bool Try.underlying4 h2
  obtain ⟨v, e3, _, w3⟩ := DataW.trod_int Try.underlying3 h3
  simp at e0 e1 e2 e3
  exact ⟨⟨s, p, d, v⟩, e0, e1, e2, e3, w1, w3⟩

instance : Inhabited Tg := ⟨⟨false, 0, false, 0⟩⟩

theorem list4 {α : Type} (l : List α) (h : (⟨l⟩ : Array α).size = 4) : ∃ a b c d, l = [a, b, c, d] := by
  match l, h with
  | [a, b, c, d], _ => exact ⟨a, b, c, d, rfl⟩

set_option maxRecDepth 100000 in
theorem open_tag {H : Type} {enc : TypeId × Value → H} {W : World} {base : Nat} {v : Value} {d : DataW H} {p : List MemPlace} (hval : Value.okWide Try.prog W .any base 38 v)
    (h : DataW.Trod enc Try.prog W 0 (fun _ => true) true 38 v d p) : ∃ t : Tg, v = tagV t ∧ (Lit.int .i64 t.p).wf = true ∧ (Lit.int .i64 t.v).wf = true := by
  obtain ⟨f0, f1, f2, f3, hu, _⟩ := tag_under
  have hc4 : Try.prog.cellsOf 38 = 4 := by kernel_rfl
  obtain ⟨cs, rfl, hsz⟩ := okWide_struct hu hval
  rw [hc4] at hsz
  obtain ⟨l⟩ := cs
  obtain ⟨c0, c1, c2, c3, rfl⟩ := list4 l hsz
  obtain ⟨fuel, hf⟩ := h
  obtain ⟨t, rfl, rfl, rfl, rfl, h1, h2⟩ := tag_cells (show DataW.trod enc Try.prog W 0 (fun _ => true) true fuel 38 [c0, c1, c2, c3] = some _ by simpa [Value.cells] using hf)
  exact ⟨t, rfl, h1, h2⟩

set_option maxRecDepth 100000 in
theorem open_tags {H : Type} {enc : TypeId × Value → H} {W : World} {base : Nat} {v : Value} {d : DataW H} {p : List MemPlace} (hval : Value.okWide Try.prog W .any base 24 v)
    (h : DataW.Trod enc Try.prog W 0 (fun _ => true) true 24 v d p) : ∃ (a : Option Addr) (c : Nat) (l : List Tg), v = .slice a l.length c ∧ l.length ≤ c ∧ c ≤ maxLen ∧ TagsIn W a l := by
  have hs : Try.prog.underlying 24 = some (.slice 38) := by kernel_rfl
  have hc4 : Try.prog.cellsOf 38 = 4 := by kernel_rfl
  obtain ⟨a, n, c, rfl⟩ := okWide_slice hs hval
  obtain ⟨fuel, hf⟩ := h
  rcases open_slice hs hf with ⟨hc, hx⟩ | ⟨b, len, cap, m, k, D, Pl, hc, hb, hl, hm, hmm, hx, hall⟩
  · simp [Value.cells] at hc
    obtain ⟨rfl, rfl, rfl⟩ := hc
    exact ⟨none, 0, [], rfl, Nat.le_refl _, by decide, Or.inl rfl⟩
  · simp [Value.cells] at hc
    obtain ⟨rfl, rfl, rfl⟩ := hc
    have hlm : n ≤ m := by rw [hmm]; split <;> omega
    have each : ∀ i, i < n → ∃ t : Tg, W.cell? (b.add (i * 4)) = some (.bool t.s) ∧ W.cell? (b.add (i * 4 + 1)) = some (.int .i64 t.p) ∧ W.cell? (b.add (i * 4 + 2)) = some (.bool t.d) ∧ W.cell? (b.add (i * 4 + 3)) = some (.int .i64 t.v) := by
      intro i hi
      obtain ⟨cs', h1, h2⟩ := hall i (by omega)
      rw [hc4] at h1
      obtain ⟨_, hlen, hcell⟩ := World.cells?_some h1
      match cs', hlen, hcell, h2 with
      | [c0, c1, c2, c3], _, hcell, h2 =>
        obtain ⟨t, rfl, rfl, rfl, rfl, _, _⟩ := tag_cells h2
        have g0 := hcell 0 (by omega)
        have g1 := hcell 1 (by omega)
        have g2 := hcell 2 (by omega)
        have g3 := hcell 3 (by omega)
        rw [add_add] at g0 g1 g2 g3
        exact ⟨t, g0, g1, g2, g3⟩
    obtain ⟨z, hz⟩ := choose_lt each
    obtain ⟨bb, bo, bs⟩ := b
    rcases Nat.eq_zero_or_pos n with rfl | q0
    · exact ⟨some ⟨bb, bo, bs⟩, c, [], rfl, hl, hm, Or.inl rfl⟩
    have h0 := (hz 0 q0).1
    have hspot : bs = none := by simpa [Addr.add] using World.cell?_spot h0
    subst hspot
    refine ⟨some ⟨bb, bo, none⟩, c, (List.range n).map z, by simp, by simpa using hl, hm, Or.inr ⟨bb, bo, rfl, ?_, fun j hj => ?_⟩⟩
    · have := World.block_lt_of_cell? W _ h0
      simpa [Addr.add] using this
    · have hj' : j < n := by simpa using hj
      obtain ⟨e0, e1, e2, e3⟩ := hz j hj'
      simp only [List.getElem_map, List.getElem_range]
      rw [add_plain] at e0 e1 e2 e3
      exact ⟨e0, e1, e2, e3⟩

end Go.Proofs.Ytmlnkellfbobcaa
