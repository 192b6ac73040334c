/- A frame that comes in, opened. -/
import Derived.Test.YtmlnkellfbobcaaFrArg
import Derived.Test.YtmlnkellfbobcaaOpenTags
import Derived.ProofKit
import Derived.OpenShut
import Derived.WideKeyArgs
import Derived.SizedLaws
namespace Go.Proofs.Ytmlnkellfbobcaa
open Go.ChangeShapes Go.WideShapes Go.ChangeAt Go.RowKit Go.Deep Go.Joins
set_option linter.unusedVariables false

theorem nat_u8f {z : Int} (h : (Lit.int .u8 z).wf = true) : ∃ n : Nat, z = n ∧ n < 256 := by
  have := bounds_u8 h
  exact ⟨z.toNat, by omega, by omega⟩

/- Six cells that read as an address. -/
set_option maxRecDepth 100000 in
theorem six_cells {H : Type} {enc : TypeId × Value → H} {W : World} {base fuel : Nat} {sp : Nat → Bool} {held : Bool} {c0 c1 c2 c3 c4 c5 : Value} {y : DataW H × List MemPlace}
    (h : DataW.trod enc Try.prog W base sp held fuel 23 [c0, c1, c2, c3, c4, c5] = some y) :
    ∃ x : Nat → Nat, (∀ i, x i < 256) ∧ c0 = .int .u8 (x 0) ∧ c1 = .int .u8 (x 1) ∧ c2 = .int .u8 (x 2) ∧ c3 = .int .u8 (x 3) ∧ c4 = .int .u8 (x 4) ∧ c5 = .int .u8 (x 5) := by
  have hc1 : Try.prog.cellsOf 5 = 1 := by kernel_rfl
  obtain ⟨xs, m, _, _, _, hl, hx⟩ := DataW.trod_array Try.underlying23 h
  rw [hc1] at hx
  have each : ∀ (i : Nat) (c : Value), i < 6 → ((([c0, c1, c2, c3, c4, c5] : List Value).drop (i * 1)).take 1) = [c] → ∃ n : Nat, c = .int .u8 n ∧ n < 256 := by
    intro i c hi hc
    have h1 := hx i hi
    rw [hc] at h1
    obtain ⟨y, hy⟩ : ∃ y, xs[i]? = some y := ⟨xs[i]'(by omega), List.getElem?_eq_getElem _⟩
    rw [hy] at h1
    obtain ⟨z, e0, _, hw⟩ := DataW.trod_int Try.underlying5 h1
    simp only [List.cons.injEq, and_true] at e0
    obtain ⟨n, rfl, hn⟩ := nat_u8f hw
    exact ⟨n, e0, hn⟩
  obtain ⟨n0, rfl, h0⟩ := each 0 c0 (by omega) rfl
  obtain ⟨n1, rfl, h1⟩ := each 1 c1 (by omega) rfl
  obtain ⟨n2, rfl, h2⟩ := each 2 c2 (by omega) rfl
  obtain ⟨n3, rfl, h3⟩ := each 3 c3 (by omega) rfl
  obtain ⟨n4, rfl, h4⟩ := each 4 c4 (by omega) rfl
  obtain ⟨n5, rfl, h5⟩ := each 5 c5 (by omega) rfl
  refine ⟨fun i => if i = 0 then n0 else if i = 1 then n1 else if i = 2 then n2 else if i = 3 then n3 else if i = 4 then n4 else n5, fun i => ?_, rfl, rfl, rfl, rfl, rfl, rfl⟩
  dsimp only
  split
  · exact h0
  split
  · exact h1
  split
  · exact h2
  split
  · exact h3
  split
  · exact h4
  · exact h5

/- A cell that reads as a list of tags. -/
set_option maxRecDepth 100000 in
theorem tags_cell {H : Type} {enc : TypeId × Value → H} {W : World} {fuel : Nat} {c0 : Value} {y : DataW H × List MemPlace}
    (hf : DataW.trod enc Try.prog W 0 (fun _ => true) true fuel 24 [c0] = some y) : ∃ (a : Option Addr) (c : Nat) (l : List Tg), c0 = .slice a l.length c ∧ l.length ≤ c ∧ c ≤ maxLen ∧ TagsIn W a l ∧ (c = 0 ∨ ∃ es sp, y.1 = .slice es sp ∧ es.length + sp.length = c) := by
  have hs : Try.prog.underlying 24 = some (.slice 38) := by kernel_rfl
  have hc4 : Try.prog.cellsOf 38 = 4 := by kernel_rfl
  rcases open_slice hs hf with ⟨hc, hx⟩ | ⟨b, n, c, m, k, D, Pl, hc, hb, hl, hm, hmm, hx, hall⟩
  · simp at hc
    subst hc
    exact ⟨none, 0, [], rfl, Nat.le_refl _, by decide, Or.inl rfl, Or.inl rfl⟩
  · simp at hc
    subst hc
    have hmc : m = c := by simpa using hmm
    subst hmc
    have each : ∀ i, i < n → ∃ t : Tg, W.cell? (b.add (i * 4)) = some (.bool t.s) ∧ W.cell? (b.add (i * 4 + 1)) = some (.int .i64 t.p) ∧ W.cell? (b.add (i * 4 + 2)) = some (.bool t.d) ∧ W.cell? (b.add (i * 4 + 3)) = some (.int .i64 t.v) := by
      intro i hi
      obtain ⟨cs', h1, h2⟩ := hall i (by omega)
      rw [hc4] at h1
      obtain ⟨_, hlen, hcell⟩ := World.cells?_some h1
      match cs', hlen, hcell, h2 with
      | [c0, c1, c2, c3], _, hcell, h2 =>
        obtain ⟨t, rfl, rfl, rfl, rfl, _, _⟩ := tag_cells h2
        have g0 := hcell 0 (by omega)
        have g1 := hcell 1 (by omega)
        have g2 := hcell 2 (by omega)
        have g3 := hcell 3 (by omega)
        rw [add_add] at g0 g1 g2 g3
        exact ⟨t, g0, g1, g2, g3⟩
    have hw : ∃ es sp, y.1 = .slice es sp ∧ es.length + sp.length = m := by
      rw [hx]
      refine ⟨_, _, rfl, ?_⟩
      simp
      omega
    obtain ⟨z, hz⟩ := choose_lt each
    obtain ⟨bb, bo, bs⟩ := b
    rcases Nat.eq_zero_or_pos n with rfl | q0
    · exact ⟨some ⟨bb, bo, bs⟩, m, [], rfl, hl, hm, Or.inl rfl, Or.inr hw⟩
    have h0 := (hz 0 q0).1
    have hspot : bs = none := by simpa [Addr.add] using World.cell?_spot h0
    subst hspot
    refine ⟨some ⟨bb, bo, none⟩, m, (List.range n).map z, by simp, by simpa using hl, hm, Or.inr ⟨bb, bo, rfl, ?_, fun j hj => ?_⟩, Or.inr hw⟩
    · have := World.block_lt_of_cell? W _ h0
      simpa [Addr.add] using this
    · have hj' : j < n := by simpa using hj
      obtain ⟨g0, g1, g2, g3⟩ := hz j hj'
      simp only [Addr.add_lit, List.getElem_map, List.getElem_range] at *
      exact ⟨g0, by rw [Nat.add_assoc]; exact g1, by rw [Nat.add_assoc]; exact g2, by rw [Nat.add_assoc]; exact g3⟩

theorem list21 {α : Type} (l : List α) (h : l.length = 21) : ∃ c0 c1 c2 c3 c4 c5 c6 c7 c8 c9 c10 c11 c12 c13 c14 c15 c16 c17 c18 c19 c20, l = [c0, c1, c2, c3, c4, c5, c6, c7, c8, c9, c10, c11, c12, c13, c14, c15, c16, c17, c18, c19, c20] := by
  match l, h with
  | [c0, c1, c2, c3, c4, c5, c6, c7, c8, c9, c10, c11, c12, c13, c14, c15, c16, c17, c18, c19, c20], _ => exact ⟨c0, c1, c2, c3, c4, c5, c6, c7, c8, c9, c10, c11, c12, c13, c14, c15, c16, c17, c18, c19, c20, rfl⟩

theorem list11 {α : Type} (l : List α) (h : l.length = 11) : ∃ y0 y1 y2 y3 y4 y5 y6 y7 y8 y9 y10, l = [y0, y1, y2, y3, y4, y5, y6, y7, y8, y9, y10] := by
  match l, h with
  | [y0, y1, y2, y3, y4, y5, y6, y7, y8, y9, y10], _ => exact ⟨y0, y1, y2, y3, y4, y5, y6, y7, y8, y9, y10, rfl⟩

set_option maxRecDepth 100000 in
theorem open_frame {H : Type} {enc : TypeId × Value → H} {W : World} {base : Nat} {v : Value} {d : DataW H} {p : List MemPlace} (hval : Value.okWide Try.prog W .any base 26 v)
    (h : DataW.Trod enc Try.prog W 0 (fun _ => true) true 26 v d p) : ∃ f : Fr, v = frV f ∧ FrArg W f ∧ ((∀ n ∈ d.weights Try.prog 26, n ≤ reachBytes) → f.tl.length ≤ reachBytes ∧ f.bo.size ≤ reachBytes) := by
  have hb1 : Try.prog.cellsOf 9 = 1 := by kernel_rfl
  have hi1 : Try.prog.cellsOf 3 = 1 := by kernel_rfl
  have ha6 : Try.prog.cellsOf 23 = 6 := by kernel_rfl
  have ht1 : Try.prog.cellsOf 24 = 1 := by kernel_rfl
  have hc21 : Try.prog.cellsOf 26 = 21 := by kernel_rfl
  have hby : Try.prog.bytesOf 38 = 32 := by kernel_rfl
  have hs : Try.prog.underlying 24 = some (.slice 38) := by kernel_rfl
  obtain ⟨cs, rfl, hsz⟩ := okWide_struct Try.underlying26 hval
  rw [hc21] at hsz
  obtain ⟨l⟩ := cs
  obtain ⟨c0, c1, c2, c3, c4, c5, c6, c7, c8, c9, c10, c11, c12, c13, c14, c15, c16, c17, c18, c19, c20, rfl⟩ := list21 l hsz
  obtain ⟨fuel, hf⟩ := h
  obtain ⟨xs, n, _, hx, _, hlen, hg⟩ := DataW.trod_struct Try.underlying26 hf
  obtain ⟨y0, y1, y2, y3, y4, y5, y6, y7, y8, y9, y10, rfl⟩ := list11 xs hlen
  have g0 := hg 0 _ rfl
  have g1 := hg 1 _ rfl
  have g2 := hg 2 _ rfl
  have g3 := hg 3 _ rfl
  have g4 := hg 4 _ rfl
  have g5 := hg 5 _ rfl
  have g6 := hg 6 _ rfl
  have g7 := hg 7 _ rfl
  have g8 := hg 8 _ rfl
  have g9 := hg 9 _ rfl
  have g10 := hg 10 _ rfl
  obtain ⟨x, hxl, rfl, rfl, rfl, rfl, rfl, rfl⟩ := six_cells g0
  obtain ⟨u, hul, rfl, rfl, rfl, rfl, rfl, rfl⟩ := six_cells g1
  obtain ⟨a, tl, tc, rfl, hlc, hcm, hin, hwt⟩ := tags_cell g2
  obtain ⟨k, e3, _, _⟩ := DataW.trod_int Try.underlying3 g3
  obtain ⟨t, e4, _, _⟩ := DataW.trod_int Try.underlying3 g4
  obtain ⟨da, e5, _, _⟩ := DataW.trod_int Try.underlying3 g5
  obtain ⟨sa, e6, _, _⟩ := DataW.trod_int Try.underlying3 g6
  obtain ⟨ct, e7, _, _⟩ := DataW.trod_int Try.underlying3 g7
  obtain ⟨ou, e8, _, _⟩ := DataW.trod_int Try.underlying3 g8
  obtain ⟨pi, e9, _, _⟩ := DataW.trod_int Try.underlying3 g9
  obtain ⟨bo, e10, hy10, hbl⟩ := DataW.trod_string Try.underlying9 g10
  obtain rfl : c13 = .int .i64 k := (List.cons.inj (show [c13] = [.int .i64 k] from e3)).1
  obtain rfl : c14 = .int .i64 t := (List.cons.inj (show [c14] = [.int .i64 t] from e4)).1
  obtain rfl : c15 = .int .i64 da := (List.cons.inj (show [c15] = [.int .i64 da] from e5)).1
  obtain rfl : c16 = .int .i64 sa := (List.cons.inj (show [c16] = [.int .i64 sa] from e6)).1
  obtain rfl : c17 = .int .i64 ct := (List.cons.inj (show [c17] = [.int .i64 ct] from e7)).1
  obtain rfl : c18 = .int .i64 ou := (List.cons.inj (show [c18] = [.int .i64 ou] from e8)).1
  obtain rfl : c19 = .int .i64 pi := (List.cons.inj (show [c19] = [.int .i64 pi] from e9)).1
  obtain rfl : c20 = .string bo := (List.cons.inj (show [c20] = [.string bo] from e10)).1
  refine ⟨⟨x, u, a, tc, tl, k, t, da, sa, ct, ou, pi, bo⟩, rfl, ⟨hin, hlc, hcm, hbl⟩, fun hw => ?_⟩
  simp only [Prod.mk.injEq] at hx
  have hd : d = .agg [y0.1, y1.1, y2.1, y3.1, y4.1, y5.1, y6.1, y7.1, y8.1, y9.1, y10.1] := hx.1
  rw [hd] at hw
  have hW : DataW.weights Try.prog 26 (.agg [y0.1, y1.1, y2.1, y3.1, y4.1, y5.1, y6.1, y7.1, y8.1, y9.1, y10.1]) = DataW.weightsEach Try.prog [23, 23, 24, 3, 3, 3, 3, 3, 3, 3, 9] [y0.1, y1.1, y2.1, y3.1, y4.1, y5.1, y6.1, y7.1, y8.1, y9.1, y10.1] := by
    rw [DataW.weights, Try.underlying26]
    rfl
  rw [hW] at hw
  constructor
  · show tc.length ≤ reachBytes
    rcases hwt with h0 | ⟨es, sp, hy, hl⟩
    · exact Nat.le_trans hlc (by rw [h0]; exact Nat.zero_le _)
    · have := hw ((es.length + sp.length) * 32) (DataW.weights_mem_each (j := 2) rfl rfl _ (by rw [hy]; simp [DataW.weights, hs, hby]))
      omega
  · show bo.size ≤ reachBytes
    have h10 : y10.1 = .lit (.string bo.data.toList) := by rw [hy10]
    have := hw bo.data.toList.length (DataW.weights_mem_each (j := 10) rfl rfl _ (by rw [h10]; simp [DataW.weights]))
    simpa using this

end Go.Proofs.Ytmlnkellfbobcaa
